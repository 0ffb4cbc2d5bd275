/-
  Changed of the program, at two frames with one region.
-/
import Derived.Test.YtcklpmjeimjgmaaWBoth
import Derived.BigQuiet
namespace Go.Proofs.Ytcklpmjeimjgmaa
open Go.RowKit Go.Shelf
attribute [local go_sem] run_store_float

theorem results_row_tmp2 {P : Program} {fn : Func} {p u v : Tmp} {ty : TypeId} (h : fn.results = #[.cell p ty, .tmp u, .tmp v]) (tmps : Array Value) (w : World) (g : Nat) (t : TypeId) (cs : Array Value) (d : TypeDesc)
    (hp : tmps.getD p undef = .pointer (some ⟨g, 0, none⟩)) {v2 v3 : Value} (hv : tmps.getD u undef = v2) (hv3 : tmps.getD v undef = v3) (hg : Blk w g t cs)
    (hu : P.underlying ty = some d) (hd : (match d with | .struct _ | .array _ _ => true | _ => false) = true) (hi : (P.info? ty).map (·.size) = some cs.size) :
    (results fn tmps).run P w = .ok (.tuple #[.agg cs, v2, v3]) w := by
  subst hv hv3
  have e : (results fn tmps).run P w = ((asAddr (tmps.getD p undef)).run P w).andThen fun a w₁ => ((loadVar ty a).run P w₁).andThen fun v1 w₂ => .ok (.tuple #[v1, tmps.getD u undef, tmps.getD v undef]) w₂ := by
    simp only [results, h]
    simp [Sem.run_bind, Result.andThen]
  rw [e, hp]
  simp [asAddr, run_loadVar_row (P := P) w g t ty cs (0, 0) d hg hu hd hi]

/-- What stands in the boxes of Changed. -/
structure CI (x y : Int) (p q : Nat) (A B : Option Addr) (n c d gb : Nat) (r : R4) (w wr : World) : Prop where
  f : Blk wr w.heap.size 26 #[.int .i64 x, .int .i64 y, .int .i64 p, .int .i64 q, .slice A n c]
  g : Blk wr (w.heap.size + 1) 26 #[.int .i64 x, .int .i64 y, .int .i64 p, .int .i64 q, .slice B n d]
  z : Blk wr (w.heap.size + 2) 23 #[.int .i64 0, .int .i64 0, .int .i64 0, .int .i64 0]
  r : Blk wr gb 23 #[.int .i64 r.1, .int .i64 r.2.1, .int .i64 r.2.2.1, .int .i64 r.2.2.2]
  be : Below w.heap.size w wr
  lt : w.heap.size + 2 < gb
theorem CI.below {x y : Int} {p q : Nat} {A B : Option Addr} {n c d gb : Nat} {r : R4} {w wr w1 : World} (h : CI x y p q A B n c d gb r w wr) (hb : Below wr.heap.size wr w1) : CI x y p q A B n c d gb r w w1 :=
  ⟨h.f.below hb h.f.lt, h.g.below hb h.g.lt, h.z.below hb h.z.lt, h.r.below hb h.r.lt, below_to h.be hb, h.lt⟩
theorem CI.drewN {x y : Int} {p q : Nat} {A B : Option Addr} {n c d gb : Nat} {r : R4} {w wr : World} (h : CI x y p q A B n c d gb r w wr) (k : Nat) : CI x y p q A B n c d gb r w (wr.drewN k) :=
  ⟨h.f, h.g, h.z, h.r, below_drewN h.be k, h.lt⟩
theorem CI.drew {x y : Int} {p q : Nat} {A B : Option Addr} {n c d gb : Nat} {r : R4} {w wr : World} (h : CI x y p q A B n c d gb r w wr) : CI x y p q A B n c d gb r w wr.drew :=
  ⟨h.f, h.g, h.z, h.r, h.be.drew, h.lt⟩
theorem CI.set {x y : Int} {p q : Nat} {A B : Option Addr} {n c d gb : Nat} {r : R4} {w wr : World} (h : CI x y p q A B n c d gb r w wr) (r1 : R4) :
    CI x y p q A B n c d gb r1 w ((((wr.setCell ⟨gb, 0, none⟩ (.int .i64 r1.1)).setCell ⟨gb, 1, none⟩ (.int .i64 r1.2.1)).setCell ⟨gb, 2, none⟩ (.int .i64 r1.2.2.1)).setCell ⟨gb, 3, none⟩ (.int .i64 r1.2.2.2)) := by
  have hl := h.lt
  have e0 : w.heap.size ≠ gb := by omega
  have e1 : w.heap.size + 1 ≠ gb := by omega
  have e2 : w.heap.size + 2 ≠ gb := by omega
  exact ⟨(((h.f.far (p := ⟨gb, 0, none⟩) e0 _).far (p := ⟨gb, 1, none⟩) e0 _).far (p := ⟨gb, 2, none⟩) e0 _).far (p := ⟨gb, 3, none⟩) e0 _,
    (((h.g.far (p := ⟨gb, 0, none⟩) e1 _).far (p := ⟨gb, 1, none⟩) e1 _).far (p := ⟨gb, 2, none⟩) e1 _).far (p := ⟨gb, 3, none⟩) e1 _,
    (((h.z.far (p := ⟨gb, 0, none⟩) e2 _).far (p := ⟨gb, 1, none⟩) e2 _).far (p := ⟨gb, 2, none⟩) e2 _).far (p := ⟨gb, 3, none⟩) e2 _,
    h.r.set4i _ _ _ _,
    (((h.be.setCell (p := ⟨gb, 0, none⟩) (by show w.heap.size ≤ gb; omega) _).setCell (p := ⟨gb, 1, none⟩) (by show w.heap.size ≤ gb; omega) _).setCell (p := ⟨gb, 2, none⟩) (by show w.heap.size ≤ gb; omega) _).setCell (p := ⟨gb, 3, none⟩) (by show w.heap.size ≤ gb; omega) _, h.lt⟩

/-- Whether four singles are the same is told by the first that differs. -/
theorem difB_first {F G : Nat → Nat} {t k : Nat} (hk : k ≤ 4) (h1 : ∀ i, i < k → cl (F (4 * t + i)) = cl (G (4 * t + i))) (h2 : k < 4 → cl (F (4 * t + k)) ≠ cl (G (4 * t + k))) : difB F G t = !decide (k = 4) := by
  unfold difB
  have := h1 0
  have := h1 1
  have := h1 2
  have := h1 3
  have hc : k = 0 ∨ k = 1 ∨ k = 2 ∨ k = 3 ∨ k = 4 := by omega
  obtain rfl | rfl | rfl | rfl | rfl := hc <;> simp_all

set_option maxRecDepth 100000 in
set_option maxHeartbeats 4000000 in
theorem changed_any (X Y : Int) (p q n c d : Nat) (A B : Option Addr) (F G : Nat → Nat) (w : World) (h : frmE X Y p q n = 0) (hn : n = 4 * (p * q)) (hnc : n ≤ c) (hcm : c ≤ maxLen) (hnd : n ≤ d) (hdm : d ≤ maxLen) (hn2 : n ≤ 65536) (hp : 0 < p)
    (hp2 : p ≤ 256) (hq2 : q ≤ 256) (x1 : -1048576 ≤ X) (x2 : X ≤ 1048576) (y1 : -1048576 ≤ Y) (y2 : Y ≤ 1048576) (hF : Src w A n F) (hG : Src w B n G) :
    Calls Try.prog 49 #[frm X Y p q A n c, frm X Y p q B n d] w fun e w' =>
      e = .returned (.tuple #[reg (chgR (difB F G) X Y p (p * q)).1 (chgR (difB F G) X Y p (p * q)).2.1 (chgR (difB F G) X Y p (p * q)).2.2.1 (chgR (difB F G) X Y p (p * q)).2.2.2, .int .i64 (chgN (difB F G) (p * q)), .int .i64 0]) ∧ Below w.heap.size w w' := by
  have HH := hid h
  have HF := hid hF
  have HG := hid hG
  have HN := hid hn
  have HCM := hid (And.intro hcm hdm)
  clear h hF hG hn hcm hdm
  obtain ⟨m, hm⟩ : ∃ m, m = p * q := ⟨_, rfl⟩
  have HM := hid hm
  rw [← hm] at HN ⊢
  clear hm
  go_enter Try.func49, Try.ntmps49
  go_wp2_with fail
  refine (checkBoth_ok _ _ _ _ _ _ _ _ _ _ HH.out).mono ?_
  rintro e w1 ⟨rfl, hb⟩
  have hw3 : CI X Y p q A B n c d w1.heap.size (0, 0, 0, 0) w (w1.alloc (.cells #[.int .i64 0, .int .i64 0, .int .i64 0, .int .i64 0] 23)) := by
    have hbb := (Below.refl w.heap.size w).alloc (Nat.le_refl _) (.cells #[.int .i64 X, .int .i64 Y, .int .i64 p, .int .i64 q, .slice A n c] 26)
    have hbb := hbb.alloc (by simp) (.cells #[.int .i64 X, .int .i64 Y, .int .i64 p, .int .i64 q, .slice B n d] 26)
    have hbb := hbb.alloc (by first | (simp; done) | (simp; omega)) (.cells #[.int .i64 0, .int .i64 0, .int .i64 0, .int .i64 0] 23)
    have s1 : w.heap.size + 2 < w1.heap.size := by have := hb.size; simp at this; omega
    refine ⟨?_, ?_, ?_, Blk.new_at _ _ _ rfl, (below_to hbb hb).alloc (by omega) _, s1⟩
    · exact ((((Blk.new_at _ _ _ rfl).alloc _).alloc _).below hb (by first | (simp; done) | (simp; omega))).alloc _
    · exact (((Blk.new_at _ _ _ (by simp)).alloc _).below hb (by first | (simp; done) | (simp; omega))).alloc _
    · exact ((Blk.new_at _ _ _ (by simp)).below hb (by first | (simp; done) | (simp; omega))).alloc _
  have H1 := hid hw3
  clear hw3 hb
  go_wp2_with fail
  go_loopw [9, 10] (fun v i wr => ∃ t : Nat, t ≤ m ∧ v = .int .i64 (chgN (difB F G) t) ∧ i = .int .i64 (4 * t : Nat) ∧ CI X Y p q A B n c d w1.heap.size (chgR (difB F G) X Y p t) w wr) (fun _ i _ => n - (intOf i).toNat)
  case atStart => exact ⟨0, Nat.zero_le _, rfl, rfl, H1.out⟩
  case round =>
    clear H1
    obtain ⟨t, ht, rfl, rfl, hrel⟩ := hrel
    have HL := hid hrel
    have a0 := hrel.f.cell 0
    have a1 := hrel.f.cell 1
    have a2 := hrel.f.cell 2
    have a3 := hrel.f.cell 3
    have a4 := hrel.f.cell 4
    have g4 := hrel.g.cell 4
    simp at a0 a1 a2 a3 a4 g4
    clear hrel
    by_cases hlt : t < m
    · obtain ⟨ba, oa, rfl, hba, hRa⟩ := HF.out (by have := HN.out; omega)
      obtain ⟨bb, ob, rfl, hbb, hRb⟩ := HG.out (by have := HN.out; omega)
      obtain ⟨k, hk, k1, k2⟩ := first_diff (fun i => F (4 * t + i)) (fun i => G (4 * t + i)) 4
      have hd := difB_first hk k1 k2
      have HD := hid hd
      have HRA : RowKit.Hid (∀ i, i < n → wr.cell? ⟨ba, oa + i, none⟩ = some (.float .f32 (F i))) := hid fun i hi => (HL.out.be.cell (p := ⟨ba, oa + i, none⟩) hba).trans (hRa i hi)
      have HRB : RowKit.Hid (∀ i, i < n → wr.cell? ⟨bb, ob + i, none⟩ = some (.float .f32 (G i))) := hid fun i hi => (HL.out.be.cell (p := ⟨bb, ob + i, none⟩) hbb).trans (hRb i hi)
      have l1 : 4 * t + 4 ≤ n := by have := HN.out; omega
      have HEQ : RowKit.Hid (∀ kd, Calls Try.prog 126 #[.slice (some ⟨ba, oa + 4 * t, none⟩) 4 (c - 4 * t), .slice (some ⟨bb, ob + 4 * t, none⟩) 4 (d - 4 * t), .func (.func 127) #[] #[]] (wr.drewN kd) fun e w' => e = .returned (.bool (decide (k = 4))) ∧ wr.drewN kd = w') :=
        hid fun kd => (equalIs_any 4 (c - 4 * t) (d - 4 * t) k (some ⟨ba, oa + 4 * t, none⟩) (some ⟨bb, ob + 4 * t, none⟩) (fun i => F (4 * t + i)) (fun i => G (4 * t + i)) (wr.drewN kd) (by omega)
          (fun _ => ⟨ba, oa + 4 * t, rfl, Nat.lt_of_lt_of_le hba HL.out.be.size, fun i hi => by have := HRA.out (4 * t + i) (by omega); rw [← Nat.add_assoc] at this; exact this⟩)
          (fun _ => ⟨bb, ob + 4 * t, rfl, Nat.lt_of_lt_of_le hbb HL.out.be.size, fun i hi => by have := HRB.out (4 * t + i) (by omega); rw [← Nat.add_assoc] at this; exact this⟩) hk k1 k2)
      clear hRa hRb k1 k2 hd
      generalize decide (k = 4) = bq at *
      obtain ⟨u, hu⟩ : ∃ u, u = 4 * t := ⟨_, rfl⟩
      have HU := hid hu
      rw [← hu] at l1 HEQ ⊢
      have l0 : u + 4 ≤ 65536 := by omega
      have l2 : (u : Int) + 4 ≤ (c : Int) := by omega
      have l3 : (u : Int) + 4 ≤ (d : Int) := by omega
      clear hu
      go_wp2_with fail
      go_quiet ((go_at_call 126; exact Calls.quiet_of_same ((HEQ.out _).mono fun _ _ h => ⟨h.1, h.2.symm⟩)))
      have htm := HM.out
      obtain ⟨h1, h2⟩ := place_in (p := p) (q := q) (t := t) (by omega) hp
      obtain ⟨pu, hpu⟩ : ∃ pu, pu = t % p := ⟨_, rfl⟩
      obtain ⟨pv, hpv⟩ : ∃ pv, pv = t / p := ⟨_, rfl⟩
      have ht6 : t ≤ 65536 := by have := HN.out; omega
      have hft : t ≤ p * q := by omega
      have HPU := hid (And.intro hpu hpv)
      rw [← hpu] at h1
      rw [← hpv] at h2
      have hnN := chgN_le (difB F G) t
      have hcn : (chgN (difB F G) t : Int) ≤ 65536 := by have := HN.out; omega
      cases bq
      · have HR : RowKit.Hid (chgR (difB F G) X Y p (t + 1) = extR (chgR (difB F G) X Y p t) (X + pu) (Y + pv)) := hid (by rw [hpu, hpv]; show (if difB F G t = true then _ else _) = _; rw [HD.out]; rfl)
        have HC : RowKit.Hid (chgN (difB F G) (t + 1) = chgN (difB F G) t + 1) := hid (by show (if difB F G t = true then _ else _) = _; rw [HD.out]; rfl)
        have HEX := hid fun wz => extended_any (chgR (difB F G) X Y p t) (X + pu) (Y + pv) wz X Y p q (by rcases chgR_fits (difB F G) X Y p q hp t hft with h | h; exact Or.inl h.1; exact Or.inr h) hp2 hq2 (by omega) (by omega) (by omega) (by omega) x1 x2 y1 y2
        have HPT := hid fun wz => pointOf_any X Y p q t wz hp hp2 ht6 x1 x2 y1 y2
        rw [← hpu, ← hpv] at HPT
        have e4 : (u : Int) / 4 = (t : Int) := by have := HU.out; omega
        have e5 : IntKind.i64.wrap (t : Int) = (t : Int) := by rw [IntKind.wrap_i64]; omega
        have HL2 := hid (HL.out.drewN nq)
        have r0 := HL.out.r.cell 0
        have r1 := HL.out.r.cell 1
        have r2 := HL.out.r.cell 2
        have r3 := HL.out.r.cell 3
        simp at r0 r1 r2 r3
        generalize chgR (difB F G) X Y p t = rr at *
        obtain ⟨q1, q2, q3, q4⟩ := rr
        dsimp only at r0 r1 r2 r3 HEX
        clear h1 h2 htm hpu hpv hft
        go_wp2_with fail
        go_region_with (first
          | (go_at_call 120; refine (HPT.out _).mono ?_; rintro e w2 ⟨rfl, hb⟩; have HL3 : RowKit.Hid (CI X Y p q (some ⟨ba, oa, none⟩) (some ⟨bb, ob, none⟩) n c d w1.heap.size (q1, q2, q3, q4) w w2) := hid (CI.below (HL.out.drewN _) hb); clear hb; have r0 := HL3.out.r.cell 0; have r1 := HL3.out.r.cell 1; have r2 := HL3.out.r.cell 2; have r3 := HL3.out.r.cell 3; simp at r0 r1 r2 r3)
          | (go_at_call 128; refine (HEX.out _).mono ?_; rintro e w3 ⟨rfl, hb⟩; have HL4 : RowKit.Hid (CI X Y p q (some ⟨ba, oa, none⟩) (some ⟨bb, ob, none⟩) n c d w1.heap.size (q1, q2, q3, q4) w w3) := hid (CI.below (by with_reducible first | exact HL3.out | exact HL3.out.drew | exact HL3.out.drewN _) hb); clear hb; have r0 := HL4.out.r.cell 0; have r1 := HL4.out.r.cell 1; have r2 := HL4.out.r.cell 2; have r3 := HL4.out.r.cell 3; simp at r0 r1 r2 r3; have fz := fun i => HL4.out.r.frozen i))
        all_goals
          go_wp2_with fail
          go_roundw
          case rel =>
            refine ⟨t + 1, by omega, ?_, by have := HU.out; congr 1; omega, ?_⟩
            · rw [HC.out]; rfl
            · rw [HR.out]
              first
                | with_reducible exact HL4.out.set (extR (q1, q2, q3, q4) (X + pu) (Y + pv))
                | with_reducible exact HL4.out.drew.set (extR (q1, q2, q3, q4) (X + pu) (Y + pv))
                | with_reducible exact (HL4.out.drewN _).set (extR (q1, q2, q3, q4) (X + pu) (Y + pv))
                | with_reducible exact (HL4.out.set (extR (q1, q2, q3, q4) (X + pu) (Y + pv))).drew
          case measure => have := HU.out; simp [intOf]; omega
      · have HR : RowKit.Hid (chgR (difB F G) X Y p (t + 1) = chgR (difB F G) X Y p t) := hid (by show (if difB F G t = true then _ else _) = _; rw [HD.out]; rfl)
        have HC : RowKit.Hid (chgN (difB F G) (t + 1) = chgN (difB F G) t) := hid (by show (if difB F G t = true then _ else _) = _; rw [HD.out]; rfl)
        clear h1 h2 htm hpu hpv hft
        go_wp2_with fail
        go_roundw
        case rel =>
          refine ⟨t + 1, by omega, by rw [HC.out], by have := HU.out; congr 1; omega, ?_⟩
          rw [HR.out]
          exact HL.out.drewN _
        case measure => have := HU.out; simp [intOf]; omega
    · obtain rfl : t = m := by omega
      have z0 := HL.out.r.cell 0
      have z1 := HL.out.r.cell 1
      have z2 := HL.out.r.cell 2
      have z3 := HL.out.r.cell 3
      have y0 := HL.out.z.cell 0
      have y1 := HL.out.z.cell 1
      have y2 := HL.out.z.cell 2
      have y3 := HL.out.z.cell 3
      have fz := fun i => HL.out.z.frozen i
      simp at z0 z1 z2 z3 y0 y1 y2 y3
      have hn4 := HN.out
      have HBK := hid (HL.out.z.set4i (.int .i64 (chgR (difB F G) X Y p t).1) (.int .i64 (chgR (difB F G) X Y p t).2.1) (.int .i64 (chgR (difB F G) X Y p t).2.2.1) (.int .i64 (chgR (difB F G) X Y p t).2.2.2))
      have HBE := hid HL.out.be
      go_wp2_with fail
      refine bodyPost_ret (v := .tuple #[reg (chgR (difB F G) X Y p t).1 (chgR (difB F G) X Y p t).2.1 (chgR (difB F G) X Y p t).2.2.1 (chgR (difB F G) X Y p t).2.2.2, .int .i64 (chgN (difB F G) t), .int .i64 0]) (results_row_tmp2 rfl _ _ _ _ _ _ rfl rfl rfl HBK.out Try.underlying23 rfl (by kernel_rfl)) rfl ⟨rfl, ?_⟩
      exact (((HBE.out.setCell (by simp; omega) _).setCell (by simp; omega) _).setCell (by simp; omega) _).setCell (by simp; omega) _
end Go.Proofs.Ytcklpmjeimjgmaa
