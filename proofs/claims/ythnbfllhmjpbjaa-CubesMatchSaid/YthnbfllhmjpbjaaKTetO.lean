/-
  Cubes in the reference: TetraOf at a colour of numbers.
-/
import Derived.Test.YthnbfllhmjpbjaaKTetR
import Derived.Test.YthnbfllhmjpbjaaKLinD
namespace Go.Proofs.Ythnbfllhmjpbjaa
open Go.RowKit Go.Shelf
attribute [local go_sem] run_store_float

/-- What lies there in the last loop. -/
structure T5 (s L H n c : Nat) (A : Option Addr) (p : Nat → Nat) (w : World) (Ba Bx Bo Bc Bq : Nat) (a x d : Nat → Nat) (E : Nat → Nat → Nat) (C : Nat → Nat) (k : Nat) (wr : World) : Prop where
  tb : TB s L H n c A p w Ba Bx Bo a x d wr
  bc : Blk wr Bc 112 (c12A E)
  bq : Blk wr Bq 27 (pA (linQ C p k))
theorem T5.below {s L H n c : Nat} {A : Option Addr} {p : Nat → Nat} {w wr w1 : World} {Ba Bx Bo Bc Bq : Nat} {a x d : Nat → Nat} {E : Nat → Nat → Nat} {C : Nat → Nat} {k : Nat} (h : T5 s L H n c A p w Ba Bx Bo Bc Bq a x d E C k wr) (hb : Below wr.heap.size wr w1) : T5 s L H n c A p w Ba Bx Bo Bc Bq a x d E C k w1 :=
  ⟨h.tb.below hb, h.bc.below hb h.bc.lt, h.bq.below hb h.bq.lt⟩
theorem T5.put {s L H n c : Nat} {A : Option Addr} {p : Nat → Nat} {w wr : World} {Ba Bx Bo Bc Bq : Nat} {a x d : Nat → Nat} {E : Nat → Nat → Nat} {C : Nat → Nat} {k v : Nat} (h : T5 s L H n c A p w Ba Bx Bo Bc Bq a x d E C k wr) (hk : k < 3) (hlo : w.heap.size + 1 + 1 < Ba) (h1 : Ba < Bx) (h2 : Bx < Bo) (h3 : Bo < Bc) (h4 : Bc < Bq) (hv : v = C k) :
    T5 s L H n c A p w Ba Bx Bo Bc Bq a x d E C (k + 1) (wr.setCell ⟨Bq, k, none⟩ (.float .f32 v)) := by
  refine ⟨h.tb.far hlo h1 h2 (by omega) k _, h.bc.far (by simp; omega) _, ?_⟩
  have hd := h.bq.set_ k (.float .f32 v)
  rw [pA_set _ k v hk] at hd
  have e : (fun j => if j = k then v else linQ C p k j) = linQ C p (k + 1) := by
    funext j
    by_cases hj : j = k
    · subst hj; rw [if_pos rfl, hv]; unfold linQ; rw [if_pos hk, if_pos (by omega)]
    · rw [if_neg hj]; unfold linQ
      by_cases h5 : j < 3
      · rw [if_pos h5, if_pos h5]
        by_cases h6 : j < k
        · rw [if_pos h6, if_pos (by omega)]
        · rw [if_neg h6, if_neg (by omega)]
      · rw [if_neg h5, if_neg h5]
  rw [e] at hd
  exact hd

set_option maxRecDepth 100000 in
set_option maxHeartbeats 4000000 in
theorem tetOf_ok (s L H n c : Nat) (A : Option Addr) (F p : Nat → Nat) (w : World) (hC : CubOk s L H n) (hF : Src w A n F) (hb : nan3 p = false) :
    Calls Try.prog 23 #[cub s L H A n c, pix p] w fun e w' => e = .returned (pix (tetP s L H F p)) ∧ Below w.heap.size w w' := by
  have HC := hid hC
  have HF := hid hF
  clear hC hF
  rw [pix_cells p]
  go_enter Try.func23, Try.ntmps23
  obtain ⟨W0, hW0⟩ : ∃ W0, ((w.alloc (.cells #[.int .i64 s, .float .f32 L, .float .f32 H, .slice A n c] 25)).alloc (.cells (pA p) 27)).alloc (.cells zpix 27) = W0 := ⟨_, rfl⟩
  have q := lo_new s L H n c A p w
  rw [hW0] at q
  have HW := hid hW0
  have Q := hid q
  have d0 := q.b1.cell 0
  have d1 := q.b1.cell 1
  have d2 := q.b1.cell 2
  have d3 := q.b1.cell 3
  simp at d0 d1 d2 d3
  clear hW0 q
  go_wp2_with (go_at_call 75; refine (theNaN_any _).mono ?_; rintro e w' ⟨rfl, rfl⟩)
  rw [HW.out]
  rw [← pix_cells p]
  refine (broken_any p _).mono ?_
  rintro e w1 ⟨rfl, hb1⟩
  rw [hb]
  have Q1 := hid (Q.out.below hb1)
  clear hb1 Q HW d0 d1 d2 d3
  rw [pix_cells p]
  go_wp2_with fail
  obtain ⟨w2, hw2⟩ : ∃ w2, w2 = (w1.alloc (.cells #[.int .i64 0, .int .i64 0, .int .i64 0] 94)).alloc (.cells #[.float .f32 0, .float .f32 0, .float .f32 0] 30) := ⟨_, rfl⟩
  rw [← hw2]
  obtain ⟨Bx, hBx⟩ : ∃ Bx, Bx = w1.heap.size + 1 := ⟨_, rfl⟩
  obtain ⟨Ba, hBa⟩ : ∃ Ba, Ba = w1.heap.size := ⟨_, rfl⟩
  have hal : Below w1.heap.size w1 w2 := by rw [hw2]; exact ((Below.refl _ _).alloc (Nat.le_refl _) _).alloc (by simp) _
  have hta : TA s L H n c A p w Ba Bx 0 w2 := by
    refine ⟨Q1.out.below hal, ?_, ?_⟩
    · rw [hw2, hBa]; exact (Blk.new_at _ _ _ rfl).alloc _
    · rw [hw2, hBx]; exact Blk.new_at _ _ _ (by simp)
  have hlo : w.heap.size + 1 + 1 < Ba := by rw [hBa]; exact Q1.out.b2.lt
  have hab : Ba < Bx := by omega
  rw [← hBx, ← hBa]
  have HTA := hid hta
  clear hw2 hBx hBa hal hta Q1
  go_loopw [33] (fun v wr => ∃ k : Nat, k ≤ 3 ∧ v = .int .i64 k ∧ TA s L H n c A p w Ba Bx k wr) (fun v _ => 3 - (intOf v).toNat)
  case atStart => exact ⟨0, by omega, rfl, HTA.out⟩
  case round =>
    clear HTA
    obtain ⟨k, hk, rfl, hta⟩ := hrel
    have HT := hid hta
    by_cases hlk : k < 3
    · have k1 : (0 : Int) ≤ (k : Int) := by omega
      have k2 : (k : Int) < 3 := by omega
      have k3 : (k : Int) < 4 := by omega
      have c0 := hta.lo.b0.cell 0
      have c1 := hta.lo.b0.cell 1
      have c2 := hta.lo.b0.cell 2
      have c3 := hta.lo.b0.cell 3
      have dk := pA_cell hta.lo.b1 k (by omega)
      simp at c0 c1 c2 c3
      clear hta
      go_upto_region 9 with fail
      have HS0 : RowKit.Hid (wr.drew.cell? ⟨w.heap.size, 0, none⟩ = some (.int .i64 s) ∧ wr.drew.cell? ⟨w.heap.size, 1, none⟩ = some (.float .f32 L) ∧ wr.drew.cell? ⟨w.heap.size, 2, none⟩ = some (.float .f32 H) ∧ wr.drew.cell? ⟨w.heap.size, 3, none⟩ = some (.slice A n c) ∧ wr.drew.cell? ⟨w.heap.size + 1, k, none⟩ = some (.float .f32 (p k))) := hid ⟨c0, c1, c2, c3, dk⟩
      clear c0 c1 c2 c3 dk
      go_region_held3 (fun w' => w'.cell? ⟨w.heap.size, 0, none⟩ = some (.int .i64 s) ∧ w'.cell? ⟨w.heap.size, 1, none⟩ = some (.float .f32 L) ∧ w'.cell? ⟨w.heap.size, 2, none⟩ = some (.float .f32 H) ∧ w'.cell? ⟨w.heap.size, 3, none⟩ = some (.slice A n c) ∧ w'.cell? ⟨w.heap.size + 1, k, none⟩ = some (.float .f32 (p k)))
        (first | exact HS0.out | exact e2.out | exact e3.out _ _ | exact e4.out _ _ _ _ | exact e5.out _ _ | exact e6.out _ _ _ _ | assumption)
        (first | (go_at_call 20; (with_reducible refine (onAxis_k s L H n c k A p _ HC.out).mono ?_); rintro e w5 ⟨rfl, hb5⟩; have hb6 : Below wr.heap.size wr w5 := (Below.refl _ _).drew.trans hb5; have HT5 := hid (HT.out.below hb6); have e2 := hid (HT5.out.s5 k (by omega)); have e3 : RowKit.Hid (∀ o v, S5 w s L H n c A p k (w5.setCell ⟨Ba, o, none⟩ v)) := hid fun o v => s5_far e2.out (by omega) o v; have e4 : RowKit.Hid (∀ o v o' v', S5 w s L H n c A p k ((w5.setCell ⟨Ba, o, none⟩ v).setCell ⟨Bx, o', none⟩ v')) := hid fun o v o' v' => s5_far (e3.out o v) (by omega) o' v'; have e5 : RowKit.Hid (∀ o v, S5 w s L H n c A p k (w5.setCell ⟨Bx, o, none⟩ v)) := hid fun o v => s5_far e2.out (by omega) o v; have e6 : RowKit.Hid (∀ o v o' v', S5 w s L H n c A p k ((w5.setCell ⟨Bx, o, none⟩ v).setCell ⟨Ba, o', none⟩ v')) := hid fun o v o' v' => s5_far (e5.out o v) (by omega) o' v'; have fa := i3_cell HT5.out.ba k hlk; have fx := f3_cell HT5.out.bx k hlk; have za := HT5.out.ba.frozen k; have zx := HT5.out.bx.frozen k; have fx2 : ∀ v, (w5.setCell ⟨Ba, k, none⟩ v).cell? ⟨Bx, k, none⟩ = some (.float .f32 (upk (spX s L H p) k k)) := fun v => far_cell fx (by omega) v; have fa2 : ∀ v, (w5.setCell ⟨Bx, k, none⟩ v).cell? ⟨Ba, k, none⟩ = some (.int .i64 (upk (spN s L H p) k k : Nat)) := fun v => far_cell fa (by omega) v; clear hb5 hb6))
      all_goals
        rename_i hH
        clear hH
        go_wp2_with fail
        go_roundw
        case rel => exact ⟨k + 1, by omega, by go_num, by first | exact HT5.out.step hlk hlo hab | exact HT5.out.step2 hlk hlo hab⟩
        case measure => simp [intOf]; omega
    · obtain rfl : k = 3 := by omega
      clear hta
      go_wp2_with fail
      obtain ⟨w3, hw3⟩ : ∃ w3, w3 = wr.alloc (.cells #[.int .i64 0, .int .i64 1, .int .i64 2] 3) := ⟨_, rfl⟩
      rw [← hw3]
      obtain ⟨Bo, hBo⟩ : ∃ Bo, Bo = wr.heap.size := ⟨_, rfl⟩
      have hbo : Bx < Bo := by rw [hBo]; exact HT.out.bx.lt
      have htb : TB s L H n c A p w Ba Bx Bo (spN s L H p) (spX s L H p) (bub (gtX (spX s L H p)) 0) w3 := by
        refine HT.out.to (by rw [hw3]; exact (Below.refl _ _).alloc (Nat.le_refl _) _) ?_
        rw [hw3, hBo]; exact Blk.new_at _ _ _ rfl
      rw [← hBo]
      have HTB := hid htb
      clear hw3 hBo htb HT
      go_loopw [50] (fun v wr => ∃ r : Nat, r ≤ 2 ∧ v = .int .i64 r ∧ TB s L H n c A p w Ba Bx Bo (spN s L H p) (spX s L H p) (bub (gtX (spX s L H p)) (2 * r)) wr) (fun v _ => 2 - (intOf v).toNat)
      case atStart => exact ⟨0, by omega, rfl, HTB.out⟩
      case round =>
        clear HTB
        obtain ⟨r, hr, rfl, htb⟩ := hrel
        have HTB := hid htb
        clear htb
        by_cases hlr : r < 2
        · obtain ⟨wo, rfl⟩ : ∃ wo : World, wo = wr := ⟨_, rfl⟩
          go_wp2_with fail
          go_loopw [52] (fun v wr => ∃ i : Nat, i ≤ 2 ∧ v = .int .i64 i ∧ TB s L H n c A p w Ba Bx Bo (spN s L H p) (spX s L H p) (bub (gtX (spX s L H p)) (2 * r + i)) wr) (fun v _ => 2 - (intOf v).toNat)
          case atStart => exact ⟨0, by omega, rfl, HTB.out⟩
          case round =>
            clear HTB
            obtain ⟨i, hi, rfl, htb⟩ := hrel
            have HTB := hid htb
            by_cases hli : i < 2
            · have HBS : RowKit.Hid (bub (gtX (spX s L H p)) (2 * r + i + 1) = if gtX (spX s L H p) (bub (gtX (spX s L H p)) (2 * r + i) (i + 1)) (bub (gtX (spX s L H p)) (2 * r + i) i) = true then swp (bub (gtX (spX s L H p)) (2 * r + i)) i (i + 1) else bub (gtX (spX s L H p)) (2 * r + i)) := hid (by
                have e : (2 * r + i) % 2 = i := by omega
                show (if gtX _ (bub _ (2 * r + i) ((2 * r + i) % 2 + 1)) (bub _ (2 * r + i) ((2 * r + i) % 2)) = true then _ else _) = _
                rw [e])
              have hdl : ∀ k, k < 3 → bub (gtX (spX s L H p)) (2 * r + i) k < 3 := bub_lt _ _
              obtain ⟨d, hd⟩ : ∃ d, d = bub (gtX (spX s L H p)) (2 * r + i) := ⟨_, rfl⟩
              rw [← hd] at htb HBS hdl HTB
              have o0 := i3_cell htb.bo i (by omega)
              have o1 := i3_cell htb.bo (i + 1) (by omega)
              have z0 := htb.bo.frozen i
              have z1 := htb.bo.frozen (i + 1)
              have x0 := f3_cell htb.bx (d i) (hdl i (by omega))
              have x1 := f3_cell htb.bx (d (i + 1)) (hdl (i + 1) (by omega))
              have hd0 := hdl i (by omega)
              have hd1 := hdl (i + 1) (by omega)
              obtain ⟨D0, hD0⟩ : ∃ D0, D0 = d i := ⟨_, rfl⟩
              obtain ⟨D1, hD1⟩ : ∃ D1, D1 = d (i + 1) := ⟨_, rfl⟩
              rw [← hD0] at o0 x0 hd0
              rw [← hD1] at o1 x1 hd1
              have HD0 := hid hD0
              have HD1 := hid hD1
              have i1 : (0 : Int) ≤ (i : Int) := by omega
              have i2 : (i : Int) + 1 < 3 := by omega
              have j1 : (D0 : Int) < 3 := by omega
              have j2 : (D1 : Int) < 3 := by omega
              have wi : IntKind.i64.wrap ((i : Int) + 1) = (i : Int) + 1 := by rw [IntKind.wrap_i64]; omega
              have ti : ((i : Int) + 1).toNat = i + 1 := by omega
              clear htb hd hdl hD0 hD1
              cases hg : FloatKind.f32.format.order (spX s L H p D1) (spX s L H p D0) == some .gt
              · have HG := hid hg
                go_wp2_with fail
                go_quiet (fail)
                have HT2 := hid (HTB.out.below (below_drewN (Below.refl _ _) nq))
                go_wp2_with fail
                go_roundw
                case rel =>
                  refine ⟨i + 1, by omega, by go_num, ?_⟩
                  have e := HBS.out
                  rw [← HD0.out, ← HD1.out] at e
                  unfold gtX at e
                  rw [HG.out, if_neg (by simp)] at e
                  unfold gtX
                  rw [show 2 * r + (i + 1) = 2 * r + i + 1 by omega, e]
                  exact HT2.out
                case measure => simp [intOf]; omega
              · have HG := hid hg
                go_wp2_with fail
                go_quiet (fail)
                have HT2 := hid (HTB.out.below (below_drewN (Below.refl _ _) nq))
                obtain ⟨wq, hwq⟩ : ∃ wq, wq = wr.drewN nq := ⟨_, rfl⟩
                rw [← hwq] at HT2 ⊢
                have o0' : wq.cell? ⟨Bo, i, none⟩ = some (.int .i64 D0) := by rw [hwq]; exact o0
                have o1' : wq.cell? ⟨Bo, i + 1, none⟩ = some (.int .i64 D1) := by rw [hwq]; exact o1
                have z0' : wq.frozen? ⟨Bo, i, none⟩ = false := by rw [hwq]; exact z0
                have z1' : wq.frozen? ⟨Bo, i + 1, none⟩ = false := by rw [hwq]; exact z1
                clear hwq o0 o1 z0 z1 x0 x1 HTB
                go_wp2_with fail
                go_region
                all_goals
                  go_wp2_with fail
                  go_roundw
                  case rel =>
                    refine ⟨i + 1, by omega, by go_num, ?_⟩
                    have e := HBS.out
                    have hs := (HT2.out.swap i hli hlo hab hbo).1
                    rw [← HD0.out, ← HD1.out] at e hs
                    unfold gtX at e ⊢
                    rw [HG.out, if_pos rfl] at e
                    rw [show 2 * r + (i + 1) = 2 * r + i + 1 by omega, e]
                    exact hs.below (Below.refl _ _).drew
                  case measure => simp [intOf]; omega
            · obtain rfl : i = 2 := by omega
              clear htb
              go_wp2_with fail
              go_roundw
              case rel => exact ⟨r + 1, by omega, by go_num, by rw [show 2 * (r + 1) = 2 * r + 2 by omega]; exact HTB.out⟩
              case measure => simp [intOf]; omega
        · obtain rfl : r = 2 := by omega
          have hq3 : ∀ k, k < 3 → ∃ q, Fv .f32 (spX s L H p k) q := fun k _ => fin_fv (pl_wf (L := L) (H := H) (p k) HC.out.s1 HC.out.s2).2.2
          have hbo2 : ∀ m, m < 3 → bub (gtX (spX s L H p)) (2 * 2) m = ordO (spX s L H p) m := by
            obtain ⟨q0, f0⟩ := hq3 0 (by omega)
            obtain ⟨q1, f1⟩ := hq3 1 (by omega)
            obtain ⟨q2, f2⟩ := hq3 2 (by omega)
            exact bub_ord (q := fun k => if k = 0 then q0 else if k = 1 then q1 else q2) fun k hk => by
              have h3 : k = 0 ∨ k = 1 ∨ k = 2 := by omega
              rcases h3 with rfl | rfl | rfl
              · exact f0
              · exact f1
              · exact f2
          have htb : TB s L H n c A p w Ba Bx Bo (spN s L H p) (spX s L H p) (ordO (spX s L H p)) wr := by
            have h := HTB.out
            refine ⟨h.lo, h.ba, h.bx, ?_⟩
            have e : i3A (bub (gtX (spX s L H p)) (2 * 2)) = i3A (ordO (spX s L H p)) := by simp only [i3A]; rw [hbo2 0 (by omega), hbo2 1 (by omega), hbo2 2 (by omega)]
            rw [← e]; exact h.bo
          have HTO := hid htb
          clear htb hbo2 hq3 HTB
          have hpm := srt_perm (gOf fun i j => cmpC (spX s L H p j) (spX s L H p i))
          have hsl := sp_cell (s := s) (L := L) (H := H) p HC.out.s1 HC.out.s2
          obtain ⟨o, ho⟩ : ∃ o, o = ordO (spX s L H p) := ⟨_, rfl⟩
          have hpm2 : (∀ m, m < 3 → o m < 3) ∧ o 0 ≠ o 1 ∧ o 0 ≠ o 2 ∧ o 1 ≠ o 2 := by rw [ho]; exact hpm
          have hst : ∀ m, m ≤ 3 → ∀ k, k < 3 → stp (spN s L H p) o m k < s := fun m hm k hk => stp_lt hpm2.2.1 hpm2.2.2.1 hpm2.2.2.2 hsl m hm k hk
          rw [← ho] at HTO
          have HO := hid ho
          have HOL := hid hpm2.1
          have HST := hid hst
          clear hpm hpm2 hsl ho hst
          have c0 := HTO.out.lo.b0.cell 0
          have c1 := HTO.out.lo.b0.cell 1
          have c2 := HTO.out.lo.b0.cell 2
          have c3 := HTO.out.lo.b0.cell 3
          have a0 := i3_cell HTO.out.ba 0 (by omega)
          have a1 := i3_cell HTO.out.ba 1 (by omega)
          have a2 := i3_cell HTO.out.ba 2 (by omega)
          simp at c0 c1 c2 c3
          go_wp2_with fail
          refine (entryOf_any s L H n c (spN s L H p 0) (spN s L H p 1) (spN s L H p 2) A F _ HC.out (HST.out 0 (by omega) 0 (by omega)) (HST.out 0 (by omega) 1 (by omega)) (HST.out 0 (by omega) 2 (by omega)) (HF.out.below HTO.out.lo.be)).mono ?_
          rintro e w6 ⟨rfl, hb6⟩
          have HT6 := hid (HTO.out.below hb6)
          clear hb6 c0 c1 c2 c3 a0 a1 a2 HTO
          go_wp2_with fail
          obtain ⟨E, hE⟩ : ∃ E : Nat → Nat → Nat, E = fun m i => cl (corE s F (spN s L H p) o m i) := ⟨_, rfl⟩
          obtain ⟨W6, hW6⟩ : ∃ W6, W6 = w6.alloc (.cells #[.float .f32 (cl (F (eIx s (spN s L H p 0) (spN s L H p 1) (spN s L H p 2)))), .float .f32 (cl (F (eIx s (spN s L H p 0) (spN s L H p 1) (spN s L H p 2) + 1))), .float .f32 (cl (F (eIx s (spN s L H p 0) (spN s L H p 1) (spN s L H p 2) + 2))), .float .f32 0, .float .f32 0, .float .f32 0, .float .f32 0, .float .f32 0, .float .f32 0, .float .f32 0, .float .f32 0, .float .f32 0] 112) := ⟨_, rfl⟩
          rw [← hW6]
          obtain ⟨Bc, hBc⟩ : ∃ Bc, Bc = w6.heap.size := ⟨_, rfl⟩
          have hbc : Bo < Bc := by rw [hBc]; exact HT6.out.bo.lt
          have htc : TB s L H n c A p w Ba Bx Bo (stp (spN s L H p) o 0) (spX s L H p) o W6 := HT6.out.below (by rw [hW6]; exact (Below.refl _ _).alloc (Nat.le_refl _) _)
          have hcc : Blk W6 Bc 112 (c12A (crk E 0)) := by
            have e : c12A (crk E 0) = #[.float .f32 (cl (F (eIx s (spN s L H p 0) (spN s L H p 1) (spN s L H p 2)))), .float .f32 (cl (F (eIx s (spN s L H p 0) (spN s L H p 1) (spN s L H p 2) + 1))), .float .f32 (cl (F (eIx s (spN s L H p 0) (spN s L H p 1) (spN s L H p 2) + 2))), .float .f32 0, .float .f32 0, .float .f32 0, .float .f32 0, .float .f32 0, .float .f32 0, .float .f32 0, .float .f32 0, .float .f32 0] := by rw [hE]; simp [c12A, crk, corE, stp]
            rw [hW6, hBc, e]; exact Blk.new_at _ _ _ rfl
          rw [← hBc]
          have HTC := hid (And.intro htc hcc)
          have HE := hid hE
          clear hW6 hBc htc hcc HT6 hE
          go_loopw [98] (fun v wr => ∃ k : Nat, k ≤ 3 ∧ v = .int .i64 k ∧ TB s L H n c A p w Ba Bx Bo (stp (spN s L H p) o k) (spX s L H p) o wr ∧ Blk wr Bc 112 (c12A (crk E k))) (fun v _ => 3 - (intOf v).toNat)
          case atStart => exact ⟨0, by omega, rfl, HTC.out⟩
          case round =>
            clear HTC
            obtain ⟨k, hk, rfl, htc⟩ := hrel
            have HT := hid htc
            clear htc
            have hk4 : k = 0 ∨ k = 1 ∨ k = 2 ∨ k = 3 := by omega
            rcases hk4 with rfl | rfl | rfl | rfl
            · have g0 := i3_cell HT.out.1.bo 0 (by omega)
              have g1 := i3_cell HT.out.1.ba (o 0) (HOL.out 0 (by omega))
              have g2 := HT.out.1.ba.frozen (o 0)
              have g3 := HOL.out 0 (by omega)
              have g5 : (o 0 : Int) < 3 := by omega
              have g4 := HST.out 0 (by omega) (o 0) g3
              have g7 : ((stp (spN s L H p) o 0 (o 0) : Nat) : Int) ≤ 20 := by have := HC.out.s2; omega
              go_upto_region 26 with fail
              have hT5 := HT.out.1.walk (m := 0) g3 hlo hab hbo
              have hb5 := HT.out.2.far (p := ⟨Ba, o 0, none⟩) (by simp; omega) (.int .i64 (stp (spN s L H p) o 0 (o 0) + 1 : Nat))
              rw [show ((stp (spN s L H p) o 0 (o 0) + 1 : Nat) : Int) = (stp (spN s L H p) o 0 (o 0) : Int) + 1 by omega] at hT5 hb5
              clear HT g0 g1 g2 g4 g7
              generalize wr.setCell ⟨Ba, o 0, none⟩ (.int .i64 ((stp (spN s L H p) o 0 (o 0) : Int) + 1)) = w7 at hT5 hb5 ⊢
              have H5 := hid (And.intro hT5 hb5)
              have f0 := i3_cell hT5.ba 0 (by omega)
              have f1 := i3_cell hT5.ba 1 (by omega)
              have f2 := i3_cell hT5.ba 2 (by omega)
              have c0 := hT5.lo.b0.cell 0
              have c1 := hT5.lo.b0.cell 1
              have c2 := hT5.lo.b0.cell 2
              have c3 := hT5.lo.b0.cell 3
              simp at c0 c1 c2 c3
              clear hT5 hb5
              go_wp2_with fail
              refine (entryOf_any s L H n c _ _ _ A F _ HC.out (HST.out 1 (by omega) 0 (by omega)) (HST.out 1 (by omega) 1 (by omega)) (HST.out 1 (by omega) 2 (by omega)) (HF.out.below H5.out.1.lo.be)).mono ?_
              rintro e w8 ⟨rfl, hb8⟩
              have H8 : RowKit.Hid (TB s L H n c A p w Ba Bx Bo (stp (spN s L H p) o 1) (spX s L H p) o w8 ∧ Blk w8 Bc 112 (c12A (crk E 0))) := hid ⟨H5.out.1.below hb8, H5.out.2.below hb8 H5.out.2.lt⟩
              have r0 := H8.out.2.cell 3
              have r1 := H8.out.2.cell 4
              have r2 := H8.out.2.cell 5
              have rf := fun i => H8.out.2.frozen i
              simp at r0 r1 r2
              clear hb8 H5 f0 f1 f2 c0 c1 c2 c3
              go_wp2_with fail
              go_roundw
              case rel =>
                refine ⟨1, by omega, by simp, ?_⟩
                have hs := c12_set H8.out.2 (by omega)
                have ht := ((H8.out.1.far hlo hab hbo hbc 3 (.float .f32 (E 1 0))).far hlo hab hbo hbc 4 (.float .f32 (E 1 1))).far hlo hab hbo hbc 5 (.float .f32 (E 1 2))
                have hee : ∀ i, E 1 i = cl (corE s F (spN s L H p) o 1 i) := fun i => by rw [HE.out]
                rw [hee, hee, hee] at hs ht
                exact ⟨ht, hs⟩
              case measure => simp [intOf]
            · have g0 := i3_cell HT.out.1.bo 1 (by omega)
              have g1 := i3_cell HT.out.1.ba (o 1) (HOL.out 1 (by omega))
              have g2 := HT.out.1.ba.frozen (o 1)
              have g3 := HOL.out 1 (by omega)
              have g5 : (o 1 : Int) < 3 := by omega
              have g4 := HST.out 1 (by omega) (o 1) g3
              have g7 : ((stp (spN s L H p) o 1 (o 1) : Nat) : Int) ≤ 20 := by have := HC.out.s2; omega
              go_upto_region 26 with fail
              have hT5 := HT.out.1.walk (m := 1) g3 hlo hab hbo
              have hb5 := HT.out.2.far (p := ⟨Ba, o 1, none⟩) (by simp; omega) (.int .i64 (stp (spN s L H p) o 1 (o 1) + 1 : Nat))
              rw [show ((stp (spN s L H p) o 1 (o 1) + 1 : Nat) : Int) = (stp (spN s L H p) o 1 (o 1) : Int) + 1 by omega] at hT5 hb5
              clear HT g0 g1 g2 g4 g7
              generalize wr.setCell ⟨Ba, o 1, none⟩ (.int .i64 ((stp (spN s L H p) o 1 (o 1) : Int) + 1)) = w7 at hT5 hb5 ⊢
              have H5 := hid (And.intro hT5 hb5)
              have f0 := i3_cell hT5.ba 0 (by omega)
              have f1 := i3_cell hT5.ba 1 (by omega)
              have f2 := i3_cell hT5.ba 2 (by omega)
              have c0 := hT5.lo.b0.cell 0
              have c1 := hT5.lo.b0.cell 1
              have c2 := hT5.lo.b0.cell 2
              have c3 := hT5.lo.b0.cell 3
              simp at c0 c1 c2 c3
              clear hT5 hb5
              go_wp2_with fail
              refine (entryOf_any s L H n c _ _ _ A F _ HC.out (HST.out 2 (by omega) 0 (by omega)) (HST.out 2 (by omega) 1 (by omega)) (HST.out 2 (by omega) 2 (by omega)) (HF.out.below H5.out.1.lo.be)).mono ?_
              rintro e w8 ⟨rfl, hb8⟩
              have H8 : RowKit.Hid (TB s L H n c A p w Ba Bx Bo (stp (spN s L H p) o 2) (spX s L H p) o w8 ∧ Blk w8 Bc 112 (c12A (crk E 1))) := hid ⟨H5.out.1.below hb8, H5.out.2.below hb8 H5.out.2.lt⟩
              have r0 := H8.out.2.cell 6
              have r1 := H8.out.2.cell 7
              have r2 := H8.out.2.cell 8
              have rf := fun i => H8.out.2.frozen i
              simp at r0 r1 r2
              clear hb8 H5 f0 f1 f2 c0 c1 c2 c3
              go_wp2_with fail
              go_roundw
              case rel =>
                refine ⟨2, by omega, by simp, ?_⟩
                have hs := c12_set H8.out.2 (by omega)
                have ht := ((H8.out.1.far hlo hab hbo hbc 6 (.float .f32 (E 2 0))).far hlo hab hbo hbc 7 (.float .f32 (E 2 1))).far hlo hab hbo hbc 8 (.float .f32 (E 2 2))
                have hee : ∀ i, E 2 i = cl (corE s F (spN s L H p) o 2 i) := fun i => by rw [HE.out]
                rw [hee, hee, hee] at hs ht
                exact ⟨ht, hs⟩
              case measure => simp [intOf]
            · have g0 := i3_cell HT.out.1.bo 2 (by omega)
              have g1 := i3_cell HT.out.1.ba (o 2) (HOL.out 2 (by omega))
              have g2 := HT.out.1.ba.frozen (o 2)
              have g3 := HOL.out 2 (by omega)
              have g5 : (o 2 : Int) < 3 := by omega
              have g4 := HST.out 2 (by omega) (o 2) g3
              have g7 : ((stp (spN s L H p) o 2 (o 2) : Nat) : Int) ≤ 20 := by have := HC.out.s2; omega
              go_upto_region 26 with fail
              have hT5 := HT.out.1.walk (m := 2) g3 hlo hab hbo
              have hb5 := HT.out.2.far (p := ⟨Ba, o 2, none⟩) (by simp; omega) (.int .i64 (stp (spN s L H p) o 2 (o 2) + 1 : Nat))
              rw [show ((stp (spN s L H p) o 2 (o 2) + 1 : Nat) : Int) = (stp (spN s L H p) o 2 (o 2) : Int) + 1 by omega] at hT5 hb5
              clear HT g0 g1 g2 g4 g7
              generalize wr.setCell ⟨Ba, o 2, none⟩ (.int .i64 ((stp (spN s L H p) o 2 (o 2) : Int) + 1)) = w7 at hT5 hb5 ⊢
              have H5 := hid (And.intro hT5 hb5)
              have f0 := i3_cell hT5.ba 0 (by omega)
              have f1 := i3_cell hT5.ba 1 (by omega)
              have f2 := i3_cell hT5.ba 2 (by omega)
              have c0 := hT5.lo.b0.cell 0
              have c1 := hT5.lo.b0.cell 1
              have c2 := hT5.lo.b0.cell 2
              have c3 := hT5.lo.b0.cell 3
              simp at c0 c1 c2 c3
              clear hT5 hb5
              go_wp2_with fail
              refine (entryOf_any s L H n c _ _ _ A F _ HC.out (HST.out 3 (by omega) 0 (by omega)) (HST.out 3 (by omega) 1 (by omega)) (HST.out 3 (by omega) 2 (by omega)) (HF.out.below H5.out.1.lo.be)).mono ?_
              rintro e w8 ⟨rfl, hb8⟩
              have H8 : RowKit.Hid (TB s L H n c A p w Ba Bx Bo (stp (spN s L H p) o 3) (spX s L H p) o w8 ∧ Blk w8 Bc 112 (c12A (crk E 2))) := hid ⟨H5.out.1.below hb8, H5.out.2.below hb8 H5.out.2.lt⟩
              have r0 := H8.out.2.cell 9
              have r1 := H8.out.2.cell 10
              have r2 := H8.out.2.cell 11
              have rf := fun i => H8.out.2.frozen i
              simp at r0 r1 r2
              clear hb8 H5 f0 f1 f2 c0 c1 c2 c3
              go_wp2_with fail
              go_roundw
              case rel =>
                refine ⟨3, by omega, by simp, ?_⟩
                have hs := c12_set H8.out.2 (by omega)
                have ht := ((H8.out.1.far hlo hab hbo hbc 9 (.float .f32 (E 3 0))).far hlo hab hbo hbc 10 (.float .f32 (E 3 1))).far hlo hab hbo hbc 11 (.float .f32 (E 3 2))
                have hee : ∀ i, E 3 i = cl (corE s F (spN s L H p) o 3 i) := fun i => by rw [HE.out]
                rw [hee, hee, hee] at hs ht
                exact ⟨ht, hs⟩
              case measure => simp [intOf]
            · clear hk
              have g0 := i3_cell HT.out.1.bo 0 (by omega)
              have g1 := i3_cell HT.out.1.bo 1 (by omega)
              have g2 := i3_cell HT.out.1.bo 2 (by omega)
              have j0 := HOL.out 0 (by omega)
              have j1 := HOL.out 1 (by omega)
              have j2 := HOL.out 2 (by omega)
              have h0 := f3_cell HT.out.1.bx (o 0) j0
              have h1 := f3_cell HT.out.1.bx (o 1) j1
              have h2 := f3_cell HT.out.1.bx (o 2) j2
              have l0 : (o 0 : Int) < 3 := by omega
              have l1 : (o 1 : Int) < 3 := by omega
              have l2 : (o 2 : Int) < 3 := by omega
              have d3 := HT.out.1.lo.b1.cell 3
              simp at d3
              obtain ⟨S0, hS0⟩ : ∃ S0, S0 = spX s L H p (o 0) := ⟨_, rfl⟩
              obtain ⟨S1, hS1⟩ : ∃ S1, S1 = spX s L H p (o 1) := ⟨_, rfl⟩
              obtain ⟨S2, hS2⟩ : ∃ S2, S2 = spX s L H p (o 2) := ⟨_, rfl⟩
              rw [← hS0] at h0
              rw [← hS1] at h1
              rw [← hS2] at h2
              have HS := hid (And.intro hS0 (And.intro hS1 hS2))
              clear hS0 hS1 hS2 j0 j1 j2
              go_wp2_with fail
              go_quiet (fail)
              have HT2 : RowKit.Hid (TB s L H n c A p w Ba Bx Bo (stp (spN s L H p) o 3) (spX s L H p) o (wr.drewN nq) ∧ Blk (wr.drewN nq) Bc 112 (c12A (crk E 3))) := hid ⟨HT.out.1.below (below_drewN (Below.refl _ _) nq), HT.out.2.below (below_drewN (Below.refl _ _) nq) HT.out.2.lt⟩
              obtain ⟨wq, hwq⟩ : ∃ wq, wq = wr.drewN nq := ⟨_, rfl⟩
              rw [← hwq] at HT2 ⊢
              clear g0 g1 g2 h0 h1 h2 l0 l1 l2 d3 hwq HT
              have d3 := HT2.out.1.lo.b1.cell 3
              simp at d3
              go_wp2_with (go_at_call 57; refine (fix_any _ _).mono ?_; rintro e w' ⟨rfl, rfl⟩)
              obtain ⟨C, hC5⟩ : ∃ C, C = tetC s F (spN s L H p) (spX s L H p) := ⟨_, rfl⟩
              have HV : RowKit.Hid (∀ i, C i = tetV (corE s F (spN s L H p) o) S0 S1 S2 i) := hid fun i => by rw [hC5, HS.out.1, HS.out.2.1, HS.out.2.2, HO.out]; rfl
              have HC5 := hid hC5
              clear hC5 d3
              obtain ⟨Bq, hBq⟩ : ∃ Bq, Bq = wq.heap.size := ⟨_, rfl⟩
              obtain ⟨W9, hW9⟩ : ∃ W9, W9 = wq.alloc (.cells #[.float .f32 0, .float .f32 0, .float .f32 0, .float .f32 (cl (p 3))] 27) := ⟨_, rfl⟩
              rw [← hW9, ← hBq]
              have hcq : Bc < Bq := by rw [hBq]; exact HT2.out.2.lt
              have ht5 : T5 s L H n c A p w Ba Bx Bo Bc Bq (stp (spN s L H p) o 3) (spX s L H p) o E C 0 W9 := by
                have hal : Below wq.heap.size wq W9 := by rw [hW9]; exact (Below.refl _ _).alloc (Nat.le_refl _) _
                have ec : c12A (crk E 3) = c12A E := by simp [c12A, crk]
                have hb := HT2.out.2.below hal HT2.out.2.lt
                rw [ec] at hb
                refine ⟨HT2.out.1.below hal, hb, ?_⟩
                rw [hW9, hBq]; exact Blk.new_at _ _ _ rfl
              have HT5 := hid ht5
              clear hBq hW9 ht5 HT2
              go_loopw [139] (fun v wr => ∃ k : Nat, k ≤ 3 ∧ v = .int .i64 k ∧ T5 s L H n c A p w Ba Bx Bo Bc Bq (stp (spN s L H p) o 3) (spX s L H p) o E C k wr) (fun v _ => 3 - (intOf v).toNat)
              case atStart => exact ⟨0, by omega, rfl, HT5.out⟩
              case round =>
                clear HT5
                obtain ⟨k, hk, rfl, ht5⟩ := hrel
                have HT5 := hid ht5
                by_cases hlk : k < 3
                · have k1 : (0 : Int) ≤ (k : Int) := by omega
                  have k2 : (k : Int) < 3 := by omega
                  have k3 : (k : Int) < 4 := by omega
                  obtain ⟨m0, m1, m2, m3⟩ := c12_cell ht5.bc k hlk
                  clear ht5
                  go_upto_region 33 with fail
                  go_quiet (fail)
                  have HT6 := hid (HT5.out.below (below_drewN (Below.refl _ _) nq))
                  obtain ⟨wp, hwp⟩ : ∃ wp, wp = wr.drewN nq := ⟨_, rfl⟩
                  rw [← hwp] at HT6 ⊢
                  clear hwp HT5 m0 m1 m2 m3
                  have q0 := pA_cell HT6.out.bq k (by omega)
                  have qf := HT6.out.bq.frozen k
                  skip
                  cases s0 : FloatKind.f32.format.order S0 0 == some .eq
                  case false =>
                    cases s1 : FloatKind.f32.format.order S0 1065353216 == some .eq
                    case false =>
                      cases t1 : FloatKind.f32.format.order S1 1065353216 == some .eq
                      case false =>
                        cases u1 : FloatKind.f32.format.order S2 1065353216 == some .eq
                        case false =>
                          go_wp2_with (go_at_call 57; refine (fix_any _ _).mono ?_; rintro e w' ⟨rfl, rfl⟩)
                          go_roundw
                          case rel => exact ⟨k + 1, by omega, by go_num, (HT6.out.below (below_drewN (Below.refl _ _) _)).put hlk hlo hab hbo hbc hcq (by rw [HV.out, tetV4 s0 (by rw [s1]; rfl) (by rw [t1]; rfl) u1, HE.out]; unfold G fmC cl; simp only [cn_fop, cn_cn])⟩
                          case measure => simp [intOf]; omega
                        case true =>
                          go_wp2_with (go_at_call 57; refine (fix_any _ _).mono ?_; rintro e w' ⟨rfl, rfl⟩)
                          go_roundw
                          case rel => exact ⟨k + 1, by omega, by go_num, HT6.out.put hlk hlo hab hbo hbc hcq (by rw [HV.out, tetV3 s0 (by rw [s1]; rfl) (by rw [t1]; rfl) u1, HE.out])⟩
                          case measure => simp [intOf]; omega
                      case true =>
                        cases u0 : FloatKind.f32.format.order S2 0 == some .eq
                        case false =>
                          cases u1 : FloatKind.f32.format.order S2 1065353216 == some .eq
                          case false =>
                            go_wp2_with (go_at_call 57; refine (fix_any _ _).mono ?_; rintro e w' ⟨rfl, rfl⟩)
                            go_roundw
                            case rel => exact ⟨k + 1, by omega, by go_num, (HT6.out.below (below_drewN (Below.refl _ _) _)).put hlk hlo hab hbo hbc hcq (by rw [HV.out, tetV4 s0 (by rw [s1]; rfl) (by rw [t1, u0]; rfl) u1, HE.out]; unfold G fmC cl; simp only [cn_fop, cn_cn])⟩
                            case measure => simp [intOf]; omega
                          case true =>
                            go_wp2_with (go_at_call 57; refine (fix_any _ _).mono ?_; rintro e w' ⟨rfl, rfl⟩)
                            go_roundw
                            case rel => exact ⟨k + 1, by omega, by go_num, HT6.out.put hlk hlo hab hbo hbc hcq (by rw [HV.out, tetV3 s0 (by rw [s1]; rfl) (by rw [t1, u0]; rfl) u1, HE.out])⟩
                            case measure => simp [intOf]; omega
                        case true =>
                          go_wp2_with (go_at_call 57; refine (fix_any _ _).mono ?_; rintro e w' ⟨rfl, rfl⟩)
                          go_roundw
                          case rel => exact ⟨k + 1, by omega, by go_num, HT6.out.put hlk hlo hab hbo hbc hcq (by rw [HV.out, tetV2 s0 (by rw [s1]; rfl) (by rw [t1, u0]; rfl), HE.out])⟩
                          case measure => simp [intOf]; omega
                    case true =>
                      cases t0 : FloatKind.f32.format.order S1 0 == some .eq
                      case false =>
                        cases t1 : FloatKind.f32.format.order S1 1065353216 == some .eq
                        case false =>
                          cases u1 : FloatKind.f32.format.order S2 1065353216 == some .eq
                          case false =>
                            go_wp2_with (go_at_call 57; refine (fix_any _ _).mono ?_; rintro e w' ⟨rfl, rfl⟩)
                            go_roundw
                            case rel => exact ⟨k + 1, by omega, by go_num, (HT6.out.below (below_drewN (Below.refl _ _) _)).put hlk hlo hab hbo hbc hcq (by rw [HV.out, tetV4 s0 (by rw [s1, t0]; rfl) (by rw [t1]; rfl) u1, HE.out]; unfold G fmC cl; simp only [cn_fop, cn_cn])⟩
                            case measure => simp [intOf]; omega
                          case true =>
                            go_wp2_with (go_at_call 57; refine (fix_any _ _).mono ?_; rintro e w' ⟨rfl, rfl⟩)
                            go_roundw
                            case rel => exact ⟨k + 1, by omega, by go_num, HT6.out.put hlk hlo hab hbo hbc hcq (by rw [HV.out, tetV3 s0 (by rw [s1, t0]; rfl) (by rw [t1]; rfl) u1, HE.out])⟩
                            case measure => simp [intOf]; omega
                        case true =>
                          cases u0 : FloatKind.f32.format.order S2 0 == some .eq
                          case false =>
                            cases u1 : FloatKind.f32.format.order S2 1065353216 == some .eq
                            case false =>
                              go_wp2_with (go_at_call 57; refine (fix_any _ _).mono ?_; rintro e w' ⟨rfl, rfl⟩)
                              go_roundw
                              case rel => exact ⟨k + 1, by omega, by go_num, (HT6.out.below (below_drewN (Below.refl _ _) _)).put hlk hlo hab hbo hbc hcq (by rw [HV.out, tetV4 s0 (by rw [s1, t0]; rfl) (by rw [t1, u0]; rfl) u1, HE.out]; unfold G fmC cl; simp only [cn_fop, cn_cn])⟩
                              case measure => simp [intOf]; omega
                            case true =>
                              go_wp2_with (go_at_call 57; refine (fix_any _ _).mono ?_; rintro e w' ⟨rfl, rfl⟩)
                              go_roundw
                              case rel => exact ⟨k + 1, by omega, by go_num, HT6.out.put hlk hlo hab hbo hbc hcq (by rw [HV.out, tetV3 s0 (by rw [s1, t0]; rfl) (by rw [t1, u0]; rfl) u1, HE.out])⟩
                              case measure => simp [intOf]; omega
                          case true =>
                            go_wp2_with (go_at_call 57; refine (fix_any _ _).mono ?_; rintro e w' ⟨rfl, rfl⟩)
                            go_roundw
                            case rel => exact ⟨k + 1, by omega, by go_num, HT6.out.put hlk hlo hab hbo hbc hcq (by rw [HV.out, tetV2 s0 (by rw [s1, t0]; rfl) (by rw [t1, u0]; rfl), HE.out])⟩
                            case measure => simp [intOf]; omega
                      case true =>
                        go_wp2_with (go_at_call 57; refine (fix_any _ _).mono ?_; rintro e w' ⟨rfl, rfl⟩)
                        go_roundw
                        case rel => exact ⟨k + 1, by omega, by go_num, HT6.out.put hlk hlo hab hbo hbc hcq (by rw [HV.out, tetV1 s0 (by rw [s1, t0]; rfl), HE.out])⟩
                        case measure => simp [intOf]; omega
                  case true =>
                    go_wp2_with (go_at_call 57; refine (fix_any _ _).mono ?_; rintro e w' ⟨rfl, rfl⟩)
                    go_roundw
                    case rel => exact ⟨k + 1, by omega, by go_num, HT6.out.put hlk hlo hab hbo hbc hcq (by rw [HV.out, tetV0 s0, HE.out])⟩
                    case measure => simp [intOf]; omega
                · obtain rfl : k = 3 := by omega
                  clear ht5
                  have q0 := HT5.out.bq.cell 0
                  have q1 := HT5.out.bq.cell 1
                  have q2 := HT5.out.bq.cell 2
                  have q3 := HT5.out.bq.cell 3
                  have z0 := HT5.out.tb.lo.b2.cell 0
                  have z1 := HT5.out.tb.lo.b2.cell 1
                  have z2 := HT5.out.tb.lo.b2.cell 2
                  have z3 := HT5.out.tb.lo.b2.cell 3
                  have f0 := HT5.out.tb.lo.b2.frozen 0
                  have f1 := HT5.out.tb.lo.b2.frozen 1
                  have f2 := HT5.out.tb.lo.b2.frozen 2
                  have f3 := HT5.out.tb.lo.b2.frozen 3
                  simp at q0 q1 q2 q3 z0 z1 z2 z3
                  go_wp2_with fail
                  have e : pix (tetP s L H F p) = pix (linQ C p 3) := by rw [pix_cells, pix_cells, HC5.out]; simp [tetP, lookC, linQ, hb]
                  have hblk := HT5.out.tb.lo.b2.set4 (.float .f32 (linQ C p 3 0)) (.float .f32 (linQ C p 3 1)) (.float .f32 (linQ C p 3 2)) (.float .f32 (linQ C p 3 3))
                  have be := below_set4 HT5.out.tb.lo.be (g := w.heap.size + 1 + 1) (by omega) (.float .f32 (linQ C p 3 0)) (.float .f32 (linQ C p 3 1)) (.float .f32 (linQ C p 3 2)) (.float .f32 (linQ C p 3 3))
                  rw [e]
                  exact bodyPost_ret (v := pix (linQ C p 3)) (results_cell_row rfl _ _ _ _ _ _ _ rfl hblk Try.underlying27 rfl (by kernel_rfl)) rfl ⟨rfl, be⟩
end Go.Proofs.Ythnbfllhmjpbjaa
