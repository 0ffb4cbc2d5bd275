/-
  The law of parts of frames: Fill, At, Put, Cut, Paste and Same.
-/
import Derived.Test.YtjlghjblpbckfaaFCutR
namespace Go.Proofs.Ytjlghjblpbckfaa
open Go.RowKit Go.Shelf
attribute [local go_sem] run_store_float

set_option maxRecDepth 100000 in
set_option maxHeartbeats 4000000 in
theorem framesAreCut_any (xa ya pa qa : Int) (A0 : Option Addr) (na ca : Nat) (FA : Nat → Nat) (xb yb pb qb : Int) (B0 : Option Addr) (nb cb : Nat) (FB : Nat → Nat) (rx ry ra rb x y : Int) (P : Nat → Nat) (w : World)
    (hA : Src w A0 na FA) (hB : Src w B0 nb FB) :
    Calls Try.prog 4 #[frm xa ya pa qa A0 na ca, frm xb yb pb qb B0 nb cb, reg rx ry ra rb, .int .i64 x, .int .i64 y, pix P] w fun e w' => e = .returned (.bool true) ∧ Below w.heap.size w w' := by
  rw [pix_cells]
  obtain ⟨wb, hwb⟩ : ∃ wb, wb = (((w.alloc (.cells #[.int .i64 xa, .int .i64 ya, .int .i64 pa, .int .i64 qa, .slice A0 na ca] 39)).alloc (.cells #[.int .i64 xb, .int .i64 yb, .int .i64 pb, .int .i64 qb, .slice B0 nb cb] 39)).alloc (.cells #[.int .i64 rx, .int .i64 ry, .int .i64 ra, .int .i64 rb] 23)).alloc (.cells (pixC P) 42) := ⟨_, rfl⟩
  have hbe : Below w.heap.size w wb := by rw [hwb]; exact ((((Below.refl _ _).alloc (Nat.le_refl _) _).alloc (by simp) _).alloc (by simp; omega) _).alloc (by simp; omega) _
  have HS0 : RowKit.Hid (LSt w xa ya pa qa na ca A0 FA xb yb pb qb nb cb B0 FB rx ry ra rb P wb) := by
    refine hid ⟨?_, ?_, ?_, ?_, hA.below hbe, hB.below hbe, hbe⟩
    · rw [hwb]; exact (((Blk.new_at _ _ _ rfl).alloc _).alloc _).alloc _
    · rw [hwb]; exact ((Blk.new_at _ _ _ (by simp)).alloc _).alloc _
    · rw [hwb]; exact (Blk.new_at _ _ _ (by simp)).alloc _
    · rw [hwb]; exact Blk.new_at _ _ _ (by simp)
  have HWB := hid hwb
  have hsz : wb.heap.size = w.heap.size + 4 := by rw [hwb]; simp
  have HSZ := hid hsz
  clear hwb hbe hA hB hsz
  go_enter Try.func4, Try.ntmps4
  go_wp2_with fail
  rw [← HWB.out]
  refine (landed_any _).mono ?_
  rintro e w' ⟨rfl, rfl⟩
  clear HWB
  have a0 := HS0.out.a.cell 0
  have a1 := HS0.out.a.cell 1
  have a2 := HS0.out.a.cell 2
  have a3 := HS0.out.a.cell 3
  have a4 := HS0.out.a.cell 4
  have b0 := HS0.out.b.cell 0
  have b1 := HS0.out.b.cell 1
  have b2 := HS0.out.b.cell 2
  have b3 := HS0.out.b.cell 3
  have b4 := HS0.out.b.cell 4
  simp at a0 a1 a2 a3 a4 b0 b1 b2 b3 b4
  have la := HS0.out.a.lt
  have lb := HS0.out.b.lt
  go_wp2_with fail
  go_cut [] (fun wx => LReady w rx ry ra rb P wx)
  case first =>
    have fz0 := fun i => HS0.out.a.frozen i
    have fz1 := fun i => HS0.out.b.frozen i
    go_region_with (first
      | (go_at_call 21; have hh := HS1; clear hh; refine (fit_any xb yb pb qb B0 nb cb FB _ HS1.out.fb).mono ?_; rintro e w2 hfit; obtain ⟨X', Y', p', q', N', gb, G, rfl, hok', hreg', hpq', hm0', hm2', p1', p2', q1', q2', x1', x2', y1', y2', hgb, hgl', hrd', hb⟩ := fit_nat hfit; have HS2 := hid (HS1.out.below hb); have HA2 := hid (HA1.out.below hb); have HB2 := hid (Src.of_rd hrd' hgl'); have HFB := hid (And.intro hok' hm2'); have HGB := hid hgb; have HSZ2 := hid hb.size; have HGL2 := hid hgl'; have fy0 := fun i => HS2.out.a.frozen i; have fy1 := fun i => HS2.out.b.frozen i; have y0 := HS2.out.a.cell 0; have y1 := HS2.out.a.cell 1; have y2 := HS2.out.a.cell 2; have y3 := HS2.out.a.cell 3; have y4 := HS2.out.a.cell 4; have v0 := HS2.out.b.cell 0; have v1 := HS2.out.b.cell 1; have v2 := HS2.out.b.cell 2; have v3 := HS2.out.b.cell 3; have v4 := HS2.out.b.cell 4; simp at y0 y1 y2 y3 y4 v0 v1 v2 v3 v4; clear hfit hok' hreg' hpq' hm0' hm2' p1' p2' q1' q2' x1' x2' y1' y2' hgb hgl' hrd' hb)
      | (go_at_call 21; refine (fit_any xa ya pa qa A0 na ca FA _ (HS0.out.below (below_drewN (Below.refl _ _) 1)).fa).mono ?_; rintro e w1 hfit; obtain ⟨X, Y, p, q, N, ga, F, rfl, hok, hreg, hpq, hm0, hm2, p1, p2, q1, q2, x1, x2, y1, y2, hga, hgl, hrd, hb⟩ := fit_nat hfit; have HS1 := hid (HS0.out.below ((Below.refl _ _).drew.trans hb)); have HA1 := hid (Src.of_rd hrd hgl); have HFA := hid (And.intro hok (And.intro hm2 (And.intro x1 (And.intro x2 (And.intro y1 (And.intro y2 (And.intro p2 q2))))))); have HGA := hid hga; have HSZ1 := hid hb.size; have HGL1 := hid hgl; have t0 := HS1.out.b.cell 0; have t1 := HS1.out.b.cell 1; have t2 := HS1.out.b.cell 2; have t3 := HS1.out.b.cell 3; have t4 := HS1.out.b.cell 4; simp at t0 t1 t2 t3 t4; clear hfit hok hreg hpq hm0 hm2 p1 p2 q1 q2 x1 x2 y1 y2 hga hgl hrd hb))
    all_goals
      go_wp2_with fail
      go_meet
      case rel =>
        have g1 := HGA.out
        have g2 := HGB.out
        have g3 := HSZ1.out
        have g4 := HSZ.out
        have g5 : (wb.drewN 1).heap.size = wb.heap.size := rfl
        have g6 : wb.drew.heap.size = wb.heap.size := rfl
        obtain ⟨ok1, m21, x1, x2, y1, y2, pp2, qq2⟩ := HFA.out
        obtain ⟨ok2, m22⟩ := HFB.out
        have na : ga ≠ w.heap.size := by omega
        have na1 : ga ≠ w.heap.size + 1 := by omega
        have nb0 : gb ≠ w.heap.size := by omega
        have nb1 : gb ≠ w.heap.size + 1 := by omega
        have hbe := below_set5 (below_set5 HS2.out.be (Nat.le_refl _) (.int .i64 X) (.int .i64 Y) (.int .i64 p) (.int .i64 q) (.slice (some ⟨ga, 0, none⟩) (4 * N) (4 * N))) (show w.heap.size ≤ w.heap.size + 1 by omega) (.int .i64 X') (.int .i64 Y') (.int .i64 p') (.int .i64 q') (.slice (some ⟨gb, 0, none⟩) (4 * N') (4 * N'))
        refine ⟨X, Y, p, q, 4 * N, ga, F, X', Y', p', q', 4 * N', gb, G, ⟨ok1, ok2, by omega, by omega, x1, x2, y1, y2, pp2, qq2⟩, ?_, ?_, ?_, ?_, ?_, ?_, hbe⟩
        · exact (HS2.out.a.set5 _ _ _ _ _).far5 (by omega) _ _ _ _ _
        · exact (HS2.out.b.far5 (by omega) _ _ _ _ _).set5 _ _ _ _ _
        · exact (HS2.out.r.far5 (by omega) _ _ _ _ _).far5 (by omega) _ _ _ _ _
        · exact (HS2.out.p.far5 (by omega) _ _ _ _ _).far5 (by omega) _ _ _ _ _
        · exact (HA2.out.far5 na _ _ _ _ _).far5 na1 _ _ _ _ _
        · exact (HB2.out.far5 nb0 _ _ _ _ _).far5 nb1 _ _ _ _ _
  case rest =>
    clear HS0 a0 a1 a2 a3 a4 b0 b1 b2 b3 b4 la lb
    obtain ⟨X, Y, p, q, n, ga, F, X', Y', p', q', n', gb, G, hfacts, hst⟩ := hcut
    have HFC := hid hfacts
    have HST := hid hst
    obtain ⟨X0, Y0, p0, q0, n0, F0, hfill⟩ := fill_both rx ry ra rb P
    have HFI := hid hfill
    have r0 := hst.r.cell 0
    have r1 := hst.r.cell 1
    have r2 := hst.r.cell 2
    have r3 := hst.r.cell 3
    have t0 := hst.p.cell 0
    have t1 := hst.p.cell 1
    have t2 := hst.p.cell 2
    have t3 := hst.p.cell 3
    simp at r0 r1 r2 r3 t0 t1 t2 t3
    have lr := hst.r.lt
    have lp := hst.p.lt
    clear hst hfill hfacts
    go_wp2_with fail
    refine (HFI.out.prog _).mono ?_
    rintro e w1 ⟨A1, c1, rfl, hs1, hb1, _⟩
    have HS1 := hid (HST.out.below hb1)
    have HQ1 := hid hs1
    clear hs1 hb1 r0 r1 r2 r3 t0 t1 t2 t3 lr lp
    have r0 := HS1.out.r.cell 0
    have r1 := HS1.out.r.cell 1
    have r2 := HS1.out.r.cell 2
    have r3 := HS1.out.r.cell 3
    simp at r0 r1 r2 r3
    have lr := HS1.out.r.lt
    go_wp2_with fail
    have hal : Below w1.heap.size w1 (w1.alloc (.cells #[.int .i64 X0, .int .i64 Y0, .int .i64 p0, .int .i64 q0, .slice A1 n0 c1] 39)) := (Below.refl _ _).alloc (Nat.le_refl _) _
    have hba : Blk (w1.alloc (.cells #[.int .i64 X0, .int .i64 Y0, .int .i64 p0, .int .i64 q0, .slice A1 n0 c1] 39)) w1.heap.size 39 #[.int .i64 X0, .int .i64 Y0, .int .i64 p0, .int .i64 q0, .slice A1 n0 c1] := Blk.new_at _ _ _ rfl
    refine (regionError_any _ _ _ _ _).mono ?_
    rintro e w2 ⟨rfl, hb2⟩
    have HS2 := hid ((HS1.out.below hal).below hb2)
    have HA2 := hid (hba.below hb2 hba.lt)
    have HQ2 := hid ((HQ1.out.below hal).below hb2)
    clear r0 r1 r2 r3 lr hal hba hb2 HQ1 HS1 HST
    have hbad := fun h : regE rx ry ra rb = 0 => HFI.out.ok h
    have HOK := hid hbad
    have HLE := hid HFI.out.le
    clear hbad HFI
    generalize hE : regE rx ry ra rb = E at *
    generalize w1.heap.size = ba at *
    have hmf : ∀ (fn : Fn) (first cap : Array Value) (w : World), (Instr.makeFunc fn first cap).run Try.prog w = .ok (.func fn first cap) w := fun _ _ _ _ => rfl
    go_upto_region 6 with fail
    go_cut [54] (fun v wx => v = .bool false ∧ LSt w X Y p q n n (some ⟨ga, 0, none⟩) F X' Y' p' q' n' n' (some ⟨gb, 0, none⟩) G rx ry ra rb P wx)
    case first =>
      have z1 : (E != E) = false := by simp
      by_cases h0 : E = 0
      · obtain ⟨e1, e2, e3, e4, hmade⟩ := HOK.out h0
        subst e1 e2 e3 e4
        have z2 : (E == 0) = true := by simp [h0]
        clear h0
        obtain ⟨L, HL⟩ : ∃ L : World → Prop, RowKit.Hid (∀ wr, L wr ↔ (LSt w X Y p q n n (some ⟨ga, 0, none⟩) F X' Y' p' q' n' n' (some ⟨gb, 0, none⟩) G X0 Y0 p0 q0 P wr ∧ FBx ba X0 Y0 p0 q0 n0 c1 A1 F0 wr)) := ⟨_, hid fun _ => Iff.rfl⟩
        have HCE : RowKit.Hid (∀ wr, L wr → wr.cell? ⟨ba, 0, none⟩ = some (.int .i64 X0) ∧ wr.cell? ⟨ba, 1, none⟩ = some (.int .i64 Y0) ∧ wr.cell? ⟨ba, 2, none⟩ = some (.int .i64 p0) ∧ wr.cell? ⟨ba, 3, none⟩ = some (.int .i64 q0) ∧ wr.cell? ⟨ba, 4, none⟩ = some (.slice A1 n0 c1) ∧ wr.cell? ⟨w.heap.size + 2, 0, none⟩ = some (.int .i64 X0) ∧ wr.cell? ⟨w.heap.size + 2, 1, none⟩ = some (.int .i64 Y0) ∧ wr.cell? ⟨w.heap.size + 2, 2, none⟩ = some (.int .i64 p0) ∧ wr.cell? ⟨w.heap.size + 2, 3, none⟩ = some (.int .i64 q0) ∧ Kp L wr) := hid fun wr h => by
          have hh := (HL.out wr).1 h
          exact ⟨hh.2.k.cell 0, hh.2.k.cell 1, hh.2.k.cell 2, hh.2.k.cell 3, hh.2.k.cell 4, hh.1.r.cell 0, hh.1.r.cell 1, hh.1.r.cell 2, hh.1.r.cell 3, ⟨h⟩⟩
        have HON : RowKit.Hid (∀ w1 w2 : World, Below w1.heap.size w1 w2 → (w1.cell? ⟨ba, 0, none⟩ = some (.int .i64 X0) ∧ w1.cell? ⟨ba, 1, none⟩ = some (.int .i64 Y0) ∧ w1.cell? ⟨ba, 2, none⟩ = some (.int .i64 p0) ∧ w1.cell? ⟨ba, 3, none⟩ = some (.int .i64 q0) ∧ w1.cell? ⟨ba, 4, none⟩ = some (.slice A1 n0 c1) ∧ w1.cell? ⟨w.heap.size + 2, 0, none⟩ = some (.int .i64 X0) ∧ w1.cell? ⟨w.heap.size + 2, 1, none⟩ = some (.int .i64 Y0) ∧ w1.cell? ⟨w.heap.size + 2, 2, none⟩ = some (.int .i64 p0) ∧ w1.cell? ⟨w.heap.size + 2, 3, none⟩ = some (.int .i64 q0) ∧ Kp L w1) → w2.cell? ⟨ba, 0, none⟩ = some (.int .i64 X0) ∧ w2.cell? ⟨ba, 1, none⟩ = some (.int .i64 Y0) ∧ w2.cell? ⟨ba, 2, none⟩ = some (.int .i64 p0) ∧ w2.cell? ⟨ba, 3, none⟩ = some (.int .i64 q0) ∧ w2.cell? ⟨ba, 4, none⟩ = some (.slice A1 n0 c1) ∧ w2.cell? ⟨w.heap.size + 2, 0, none⟩ = some (.int .i64 X0) ∧ w2.cell? ⟨w.heap.size + 2, 1, none⟩ = some (.int .i64 Y0) ∧ w2.cell? ⟨w.heap.size + 2, 2, none⟩ = some (.int .i64 p0) ∧ w2.cell? ⟨w.heap.size + 2, 3, none⟩ = some (.int .i64 q0) ∧ Kp L w2) := hid fun w1 w2 hb h => by
          have hh := (HL.out w1).1 h.2.2.2.2.2.2.2.2.2.out
          exact HCE.out w2 ((HL.out w2).2 (⟨hh.1.below hb, hh.2.below hb⟩))
        have HST0 : RowKit.Hid (w2.drew.cell? ⟨ba, 0, none⟩ = some (.int .i64 X0) ∧ w2.drew.cell? ⟨ba, 1, none⟩ = some (.int .i64 Y0) ∧ w2.drew.cell? ⟨ba, 2, none⟩ = some (.int .i64 p0) ∧ w2.drew.cell? ⟨ba, 3, none⟩ = some (.int .i64 q0) ∧ w2.drew.cell? ⟨ba, 4, none⟩ = some (.slice A1 n0 c1) ∧ w2.drew.cell? ⟨w.heap.size + 2, 0, none⟩ = some (.int .i64 X0) ∧ w2.drew.cell? ⟨w.heap.size + 2, 1, none⟩ = some (.int .i64 Y0) ∧ w2.drew.cell? ⟨w.heap.size + 2, 2, none⟩ = some (.int .i64 p0) ∧ w2.drew.cell? ⟨w.heap.size + 2, 3, none⟩ = some (.int .i64 q0) ∧ Kp L w2.drew) := hid (HCE.out _ ((HL.out _).2 (⟨HS2.out.below (drew_below _), ⟨HA2.out.below (drew_below _) HA2.out.lt, HQ2.out.below (drew_below _)⟩⟩)))
        have HMD : RowKit.Hid (∀ wr, (wr.cell? ⟨ba, 0, none⟩ = some (.int .i64 X0) ∧ wr.cell? ⟨ba, 1, none⟩ = some (.int .i64 Y0) ∧ wr.cell? ⟨ba, 2, none⟩ = some (.int .i64 p0) ∧ wr.cell? ⟨ba, 3, none⟩ = some (.int .i64 q0) ∧ wr.cell? ⟨ba, 4, none⟩ = some (.slice A1 n0 c1) ∧ wr.cell? ⟨w.heap.size + 2, 0, none⟩ = some (.int .i64 X0) ∧ wr.cell? ⟨w.heap.size + 2, 1, none⟩ = some (.int .i64 Y0) ∧ wr.cell? ⟨w.heap.size + 2, 2, none⟩ = some (.int .i64 p0) ∧ wr.cell? ⟨w.heap.size + 2, 3, none⟩ = some (.int .i64 q0) ∧ Kp L wr) → Calls Try.prog 24 #[reg X0 Y0 p0 q0, .func (.func 25) #[] #[.pointer (some ⟨w.heap.size + 3, 0, none⟩)]] wr (FO wr X0 Y0 p0 q0 n0 F0)) := hid fun wr h => hmade wr _ ((HL.out wr).1 h.2.2.2.2.2.2.2.2.2.out).1.p
        have HSF : RowKit.Hid (∀ wr, (wr.cell? ⟨ba, 0, none⟩ = some (.int .i64 X0) ∧ wr.cell? ⟨ba, 1, none⟩ = some (.int .i64 Y0) ∧ wr.cell? ⟨ba, 2, none⟩ = some (.int .i64 p0) ∧ wr.cell? ⟨ba, 3, none⟩ = some (.int .i64 q0) ∧ wr.cell? ⟨ba, 4, none⟩ = some (.slice A1 n0 c1) ∧ wr.cell? ⟨w.heap.size + 2, 0, none⟩ = some (.int .i64 X0) ∧ wr.cell? ⟨w.heap.size + 2, 1, none⟩ = some (.int .i64 Y0) ∧ wr.cell? ⟨w.heap.size + 2, 2, none⟩ = some (.int .i64 p0) ∧ wr.cell? ⟨w.heap.size + 2, 3, none⟩ = some (.int .i64 q0) ∧ Kp L wr) → ∀ (A2 : Option Addr) (c2 : Nat), Src wr A2 n0 F0 → Calls Try.prog 23 #[frm X0 Y0 p0 q0 A1 n0 c1, frm X0 Y0 p0 q0 A2 n0 c2] wr fun e w' => e = .returned (.bool true) ∧ Below wr.heap.size wr w') := hid fun wr h A2 c2 hs => sameFrame_any X0 Y0 p0 q0 n0 c1 c2 A1 A2 F0 F0 wr HLE.out ((HL.out wr).1 h.2.2.2.2.2.2.2.2.2.out).2.s hs fun _ _ => rfl
        clear hmade HS2 HA2 HQ2
        go_region_held3 (fun w' => w'.cell? ⟨ba, 0, none⟩ = some (.int .i64 X0) ∧ w'.cell? ⟨ba, 1, none⟩ = some (.int .i64 Y0) ∧ w'.cell? ⟨ba, 2, none⟩ = some (.int .i64 p0) ∧ w'.cell? ⟨ba, 3, none⟩ = some (.int .i64 q0) ∧ w'.cell? ⟨ba, 4, none⟩ = some (.slice A1 n0 c1) ∧ w'.cell? ⟨w.heap.size + 2, 0, none⟩ = some (.int .i64 X0) ∧ w'.cell? ⟨w.heap.size + 2, 1, none⟩ = some (.int .i64 Y0) ∧ w'.cell? ⟨w.heap.size + 2, 2, none⟩ = some (.int .i64 p0) ∧ w'.cell? ⟨w.heap.size + 2, 3, none⟩ = some (.int .i64 q0) ∧ Kp L w') (first | exact HST0.out | exact HON.out _ _ (by assumption) (by assumption) | assumption)
          (first
            | (go_at_call 24; refine (HMD.out _ (by assumption)).mono ?_; rintro e w3 ⟨A2, c2, rfl, hs, hb, _⟩)
            | (go_at_call 23; refine (HSF.out _ (by assumption) _ _ (by assumption)).mono ?_; rintro e w4 ⟨rfl, hb⟩))
        all_goals
          rename_i hH
          have HK := hid ((HL.out _).1 hH.2.2.2.2.2.2.2.2.2.out)
          clear hH
          go_wp2_with fail
          go_meet
          case rel => exact ⟨rfl, HK.out.1⟩
      · have z2 : (E == 0) = false := by simp [h0]
        clear h0
        go_region_with fail
        all_goals
          go_wp2_with fail
          go_meet
          case rel => exact ⟨rfl, HS2.out.below (below_drewN (Below.refl _ _) 1)⟩
    case rest =>
      obtain ⟨rfl, hst⟩ := hcut
      have HST := hid hst
      obtain ⟨inn, E2, X2, Y2, p2, q2, n2, F2, Q, hput⟩ := put_both X Y p q n n (some ⟨ga, 0, none⟩) F x y P HFC.out.1 (by have := HFC.out.2.2.1; omega) (Nat.le_refl _) (by have := HFC.out.2.2.1; unfold maxLen; omega) HFC.out.2.2.2.2.1 HFC.out.2.2.2.2.2.1 HFC.out.2.2.2.2.2.2.1 HFC.out.2.2.2.2.2.2.2.1 HFC.out.2.2.2.2.2.2.2.2.1 HFC.out.2.2.2.2.2.2.2.2.2
      have HPU := hid hput
      have a0 := hst.a.cell 0
      have a1 := hst.a.cell 1
      have a2 := hst.a.cell 2
      have a3 := hst.a.cell 3
      have a4 := hst.a.cell 4
      simp at a0 a1 a2 a3 a4
      have la := hst.a.lt
      clear hput hst HS2 HA2 HQ2 HOK HLE
      go_wp2_with fail
      refine (HPU.out.inr _).mono ?_
      rintro e w3 ⟨rfl, hb3⟩
      have HS3 := hid (HST.out.below hb3)
      clear a0 a1 a2 a3 a4 la hb3
      have a0 := HS3.out.a.cell 0
      have a1 := HS3.out.a.cell 1
      have a2 := HS3.out.a.cell 2
      have a3 := HS3.out.a.cell 3
      have a4 := HS3.out.a.cell 4
      simp at a0 a1 a2 a3 a4
      have la := HS3.out.a.lt
      go_wp2_with fail
      refine (HPU.out.at_ _ HS3.out.fa).mono ?_
      rintro e w4 ⟨rfl, hb4⟩
      have HS4 := hid (HS3.out.below hb4)
      clear a0 a1 a2 a3 a4 la hb4 HST
      have hal : Below w4.heap.size w4 (w4.alloc (.cells (pixC Q) 42)) := (Below.refl _ _).alloc (Nat.le_refl _) _
      have hbq : Blk (w4.alloc (.cells (pixC Q) 42)) w4.heap.size 42 (pixC Q) := Blk.new_at _ _ _ rfl
      have HS5 := hid (HS4.out.below hal)
      have HBQ := hid hbq
      have a0 := HS4.out.a.cell 0
      have a1 := HS4.out.a.cell 1
      have a2 := HS4.out.a.cell 2
      have a3 := HS4.out.a.cell 3
      have a4 := HS4.out.a.cell 4
      have t0 := HS4.out.p.cell 0
      have t1 := HS4.out.p.cell 1
      have t2 := HS4.out.p.cell 2
      have t3 := HS4.out.p.cell 3
      simp at a0 a1 a2 a3 a4 t0 t1 t2 t3
      have la := HS4.out.a.lt
      have lp := HS4.out.p.lt
      have px := pix_cells Q
      have HZQ := hid (show w.heap.size + 4 ≤ w4.heap.size from HS4.out.p.lt)
      clear hal hbq
      go_wp2_with fail
      refine (HPU.out.put _ HS5.out.fa).mono ?_
      rintro e w5 ⟨A5, c5, rfl, hs5, hb5, _⟩
      have HS6 := hid (HS5.out.below hb5)
      have HBQ6 := hid (HBQ.out.below hb5 HBQ.out.lt)
      have hal : Below w5.heap.size w5 (w5.alloc (.cells #[.int .i64 X2, .int .i64 Y2, .int .i64 p2, .int .i64 q2, .slice A5 n2 c5] 39)) := (Below.refl _ _).alloc (Nat.le_refl _) _
      have hbb : Blk (w5.alloc (.cells #[.int .i64 X2, .int .i64 Y2, .int .i64 p2, .int .i64 q2, .slice A5 n2 c5] 39)) w5.heap.size 39 #[.int .i64 X2, .int .i64 Y2, .int .i64 p2, .int .i64 q2, .slice A5 n2 c5] := Blk.new_at _ _ _ rfl
      have HS7 := hid (HS6.out.below hal)
      have HBQ7 := hid (HBQ6.out.below hal HBQ6.out.lt)
      have HFB7 := hid (show FBx w5.heap.size X2 Y2 p2 q2 n2 c5 A5 F2 _ from ⟨hbb, hs5.below hal⟩)
      clear a0 a1 a2 a3 a4 t0 t1 t2 t3 la lp hb5 hs5 hal hbb HS3 HS4 HS5 HS6 HBQ HBQ6
      have hst := HS7.out
      have hbq7 := HBQ7.out
      generalize w4.heap.size = bq at *
      go_upto_if 77 with fail
      generalize hw6 : w5.alloc (.cells #[.int .i64 X2, .int .i64 Y2, .int .i64 p2, .int .i64 q2, .slice A5 n2 c5] 39) = w6 at *
      generalize w5.heap.size = bb at *
      clear hw6
      go_cut [] (fun wx => LSt w X Y p q n n (some ⟨ga, 0, none⟩) F X' Y' p' q' n' n' (some ⟨gb, 0, none⟩) G rx ry ra rb P wx)
      case first =>
        have q0 := hbq7.cell 0
        have q1 := hbq7.cell 1
        have q2' := hbq7.cell 2
        have q3 := hbq7.cell 3
        simp at q0 q1 q2' q3
        cases inn
        case false =>
          obtain ⟨e1, e2⟩ := HPU.out.no rfl
          subst e1 e2
          clear hst hbq7
          have heq := fun w => eq_zpix w
          go_wp2_with fail
          go_meet
          case rel => exact HS7.out
        case true =>
          obtain ⟨e1, e2, e3, e4, e5, ⟨W, hw0, hw3, hpix⟩, hmade, hpaste⟩ := HPU.out.yes rfl
          have e2' := e2.symm
          have e3' := e3.symm
          have e4' := e4.symm
          have e5' := e5.symm
          clear e2 e3 e4 e5
          subst e1 e2' e3' e4' e5'
          have HW0 := hid hw0.symm
          have HW3 := hid hw3.symm
          have HMA := hid hmade
          have HPT := hid hpaste
          have a0 := hst.a.cell 0
          have a1 := hst.a.cell 1
          have a2 := hst.a.cell 2
          have a3 := hst.a.cell 3
          have a4 := hst.a.cell 4
          simp at a0 a1 a2 a3 a4
          have la := hst.a.lt
          have HPX := hid hpix
          clear hst hbq7 hw0 hw3 hmade hpaste hpix q0 q1 q2' q3
          go_wp2_with fail
          refine (HPX.out _ HS7.out.fa).mono ?_
          rintro e w8 ⟨rfl, hb8⟩
          have px := pix_cells W
          have hal : Below w8.heap.size w8 (w8.alloc (.cells (pixC W) 42)) := (Below.refl _ _).alloc (Nat.le_refl _) _
          have hbw : Blk (w8.alloc (.cells (pixC W) 42)) w8.heap.size 42 (pixC W) := Blk.new_at _ _ _ rfl
          have HS8 := hid ((HS7.out.below hb8).below hal)
          have HBQ8 := hid ((HBQ7.out.below hb8 HBQ7.out.lt).below hal (HBQ7.out.below hb8 HBQ7.out.lt).lt)
          have HFB8 := hid ((HFB7.out.below hb8).below hal)
          have HBW8 := hid hbw
          clear a0 a1 a2 a3 a4 la hb8 hal hbw HS7 HBQ7 HFB7
          go_wp2_with fail
          refine (HMA.out _ _ HS8.out.p).mono ?_
          rintro e w9 ⟨bo, c6, rfl, m1, m2, m3, m4, m5, m6⟩
          have HC6 := hid (And.intro m1 m2)
          have hal : Below w9.heap.size w9 (w9.alloc (.cells #[.int .i64 x, .int .i64 y, .int .i64 1, .int .i64 1, .slice (some ⟨bo, 0, none⟩) 4 c6] 39)) := (Below.refl _ _).alloc (Nat.le_refl _) _
          have hbn : Blk (w9.alloc (.cells #[.int .i64 x, .int .i64 y, .int .i64 1, .int .i64 1, .slice (some ⟨bo, 0, none⟩) 4 c6] 39)) w9.heap.size 39 #[.int .i64 x, .int .i64 y, .int .i64 1, .int .i64 1, .slice (some ⟨bo, 0, none⟩) 4 c6] := Blk.new_at _ _ _ rfl
          have HS9 := hid ((HS8.out.below m6).below hal)
          have HBQ9 := hid ((HBQ8.out.below m6 HBQ8.out.lt).below hal (HBQ8.out.below m6 HBQ8.out.lt).lt)
          have HBW9 := hid ((HBW8.out.below m6 HBW8.out.lt).below hal (HBW8.out.below m6 HBW8.out.lt).lt)
          have HFB9 := hid ((HFB8.out.below m6).below hal)
          have HFN9 := hid (show FBx w9.heap.size x y 1 1 4 c6 (some ⟨bo, 0, none⟩) (fun t => cl (P (t % 4))) _ from ⟨hbn, (Src.of_rd m5 m4).below hal⟩)
          clear m1 m2 m3 m4 m5 m6 hal hbn HS8 HBQ8 HBW8 HFB8 HMA HPX
          go_upto_region 16 with fail
          generalize hw10 : w9.alloc (.cells #[.int .i64 x, .int .i64 y, .int .i64 1, .int .i64 1, .slice (some ⟨bo, 0, none⟩) 4 c6] 39) = w10 at *
          clear hw10
          generalize w9.heap.size = bn at *
          generalize w8.heap.size = bw at *
          obtain ⟨L, HL⟩ : ∃ L : World → Prop, RowKit.Hid (∀ wr, L wr ↔ (LSt w X Y p q n n (some ⟨ga, 0, none⟩) F X' Y' p' q' n' n' (some ⟨gb, 0, none⟩) G rx ry ra rb P wr ∧ FBx bb X Y p q n2 c5 A5 F2 wr ∧ FBx bn x y 1 1 4 c6 (some ⟨bo, 0, none⟩) (fun t => cl (P (t % 4))) wr ∧ Blk wr bq 42 (pixC Q) ∧ Blk wr bw 42 (pixC W))) := ⟨_, hid fun _ => Iff.rfl⟩
          have HCE : RowKit.Hid (∀ wr, L wr → wr.cell? ⟨bq, 0, none⟩ = some (.float .f32 (Q 0)) ∧ wr.cell? ⟨bq, 3, none⟩ = some (.float .f32 (Q 3)) ∧ wr.cell? ⟨bw, 0, none⟩ = some (.float .f32 (W 0)) ∧ wr.cell? ⟨bw, 3, none⟩ = some (.float .f32 (W 3)) ∧ wr.cell? ⟨bb, 0, none⟩ = some (.int .i64 X) ∧ wr.cell? ⟨bb, 1, none⟩ = some (.int .i64 Y) ∧ wr.cell? ⟨bb, 2, none⟩ = some (.int .i64 p) ∧ wr.cell? ⟨bb, 3, none⟩ = some (.int .i64 q) ∧ wr.cell? ⟨bb, 4, none⟩ = some (.slice A5 n2 c5) ∧ wr.cell? ⟨w.heap.size, 0, none⟩ = some (.int .i64 X) ∧ wr.cell? ⟨w.heap.size, 1, none⟩ = some (.int .i64 Y) ∧ wr.cell? ⟨w.heap.size, 2, none⟩ = some (.int .i64 p) ∧ wr.cell? ⟨w.heap.size, 3, none⟩ = some (.int .i64 q) ∧ wr.cell? ⟨w.heap.size, 4, none⟩ = some (.slice (some ⟨ga, 0, none⟩) n n) ∧ wr.cell? ⟨bn, 0, none⟩ = some (.int .i64 x) ∧ wr.cell? ⟨bn, 1, none⟩ = some (.int .i64 y) ∧ wr.cell? ⟨bn, 2, none⟩ = some (.int .i64 1) ∧ wr.cell? ⟨bn, 3, none⟩ = some (.int .i64 1) ∧ wr.cell? ⟨bn, 4, none⟩ = some (.slice (some ⟨bo, 0, none⟩) 4 c6) ∧ Kp L wr) := hid fun wr h => by
            have hh := (HL.out wr).1 h
            exact ⟨hh.2.2.2.1.cell 0, hh.2.2.2.1.cell 3, hh.2.2.2.2.cell 0, hh.2.2.2.2.cell 3, hh.2.1.k.cell 0, hh.2.1.k.cell 1, hh.2.1.k.cell 2, hh.2.1.k.cell 3, hh.2.1.k.cell 4, hh.1.a.cell 0, hh.1.a.cell 1, hh.1.a.cell 2, hh.1.a.cell 3, hh.1.a.cell 4, hh.2.2.1.k.cell 0, hh.2.2.1.k.cell 1, hh.2.2.1.k.cell 2, hh.2.2.1.k.cell 3, hh.2.2.1.k.cell 4, ⟨h⟩⟩
          have HON : RowKit.Hid (∀ w1 w2 : World, Below w1.heap.size w1 w2 → (w1.cell? ⟨bq, 0, none⟩ = some (.float .f32 (Q 0)) ∧ w1.cell? ⟨bq, 3, none⟩ = some (.float .f32 (Q 3)) ∧ w1.cell? ⟨bw, 0, none⟩ = some (.float .f32 (W 0)) ∧ w1.cell? ⟨bw, 3, none⟩ = some (.float .f32 (W 3)) ∧ w1.cell? ⟨bb, 0, none⟩ = some (.int .i64 X) ∧ w1.cell? ⟨bb, 1, none⟩ = some (.int .i64 Y) ∧ w1.cell? ⟨bb, 2, none⟩ = some (.int .i64 p) ∧ w1.cell? ⟨bb, 3, none⟩ = some (.int .i64 q) ∧ w1.cell? ⟨bb, 4, none⟩ = some (.slice A5 n2 c5) ∧ w1.cell? ⟨w.heap.size, 0, none⟩ = some (.int .i64 X) ∧ w1.cell? ⟨w.heap.size, 1, none⟩ = some (.int .i64 Y) ∧ w1.cell? ⟨w.heap.size, 2, none⟩ = some (.int .i64 p) ∧ w1.cell? ⟨w.heap.size, 3, none⟩ = some (.int .i64 q) ∧ w1.cell? ⟨w.heap.size, 4, none⟩ = some (.slice (some ⟨ga, 0, none⟩) n n) ∧ w1.cell? ⟨bn, 0, none⟩ = some (.int .i64 x) ∧ w1.cell? ⟨bn, 1, none⟩ = some (.int .i64 y) ∧ w1.cell? ⟨bn, 2, none⟩ = some (.int .i64 1) ∧ w1.cell? ⟨bn, 3, none⟩ = some (.int .i64 1) ∧ w1.cell? ⟨bn, 4, none⟩ = some (.slice (some ⟨bo, 0, none⟩) 4 c6) ∧ Kp L w1) → w2.cell? ⟨bq, 0, none⟩ = some (.float .f32 (Q 0)) ∧ w2.cell? ⟨bq, 3, none⟩ = some (.float .f32 (Q 3)) ∧ w2.cell? ⟨bw, 0, none⟩ = some (.float .f32 (W 0)) ∧ w2.cell? ⟨bw, 3, none⟩ = some (.float .f32 (W 3)) ∧ w2.cell? ⟨bb, 0, none⟩ = some (.int .i64 X) ∧ w2.cell? ⟨bb, 1, none⟩ = some (.int .i64 Y) ∧ w2.cell? ⟨bb, 2, none⟩ = some (.int .i64 p) ∧ w2.cell? ⟨bb, 3, none⟩ = some (.int .i64 q) ∧ w2.cell? ⟨bb, 4, none⟩ = some (.slice A5 n2 c5) ∧ w2.cell? ⟨w.heap.size, 0, none⟩ = some (.int .i64 X) ∧ w2.cell? ⟨w.heap.size, 1, none⟩ = some (.int .i64 Y) ∧ w2.cell? ⟨w.heap.size, 2, none⟩ = some (.int .i64 p) ∧ w2.cell? ⟨w.heap.size, 3, none⟩ = some (.int .i64 q) ∧ w2.cell? ⟨w.heap.size, 4, none⟩ = some (.slice (some ⟨ga, 0, none⟩) n n) ∧ w2.cell? ⟨bn, 0, none⟩ = some (.int .i64 x) ∧ w2.cell? ⟨bn, 1, none⟩ = some (.int .i64 y) ∧ w2.cell? ⟨bn, 2, none⟩ = some (.int .i64 1) ∧ w2.cell? ⟨bn, 3, none⟩ = some (.int .i64 1) ∧ w2.cell? ⟨bn, 4, none⟩ = some (.slice (some ⟨bo, 0, none⟩) 4 c6) ∧ Kp L w2) := hid fun w1 w2 hb h => by
            have hh := (HL.out w1).1 h.2.2.2.2.2.2.2.2.2.2.2.2.2.2.2.2.2.2.2.out
            exact HCE.out w2 ((HL.out w2).2 (⟨hh.1.below hb, hh.2.1.below hb, hh.2.2.1.below hb, hh.2.2.2.1.below hb hh.2.2.2.1.lt, hh.2.2.2.2.below hb hh.2.2.2.2.lt⟩))
          have HST0 : RowKit.Hid (w10.drew.cell? ⟨bq, 0, none⟩ = some (.float .f32 (Q 0)) ∧ w10.drew.cell? ⟨bq, 3, none⟩ = some (.float .f32 (Q 3)) ∧ w10.drew.cell? ⟨bw, 0, none⟩ = some (.float .f32 (W 0)) ∧ w10.drew.cell? ⟨bw, 3, none⟩ = some (.float .f32 (W 3)) ∧ w10.drew.cell? ⟨bb, 0, none⟩ = some (.int .i64 X) ∧ w10.drew.cell? ⟨bb, 1, none⟩ = some (.int .i64 Y) ∧ w10.drew.cell? ⟨bb, 2, none⟩ = some (.int .i64 p) ∧ w10.drew.cell? ⟨bb, 3, none⟩ = some (.int .i64 q) ∧ w10.drew.cell? ⟨bb, 4, none⟩ = some (.slice A5 n2 c5) ∧ w10.drew.cell? ⟨w.heap.size, 0, none⟩ = some (.int .i64 X) ∧ w10.drew.cell? ⟨w.heap.size, 1, none⟩ = some (.int .i64 Y) ∧ w10.drew.cell? ⟨w.heap.size, 2, none⟩ = some (.int .i64 p) ∧ w10.drew.cell? ⟨w.heap.size, 3, none⟩ = some (.int .i64 q) ∧ w10.drew.cell? ⟨w.heap.size, 4, none⟩ = some (.slice (some ⟨ga, 0, none⟩) n n) ∧ w10.drew.cell? ⟨bn, 0, none⟩ = some (.int .i64 x) ∧ w10.drew.cell? ⟨bn, 1, none⟩ = some (.int .i64 y) ∧ w10.drew.cell? ⟨bn, 2, none⟩ = some (.int .i64 1) ∧ w10.drew.cell? ⟨bn, 3, none⟩ = some (.int .i64 1) ∧ w10.drew.cell? ⟨bn, 4, none⟩ = some (.slice (some ⟨bo, 0, none⟩) 4 c6) ∧ Kp L w10.drew) := hid (HCE.out _ ((HL.out _).2 (⟨HS9.out.below (drew_below _), HFB9.out.below (drew_below _), HFN9.out.below (drew_below _), HBQ9.out.below (drew_below _) HBQ9.out.lt, HBW9.out.below (drew_below _) HBW9.out.lt⟩)))
          have HPA : RowKit.Hid (∀ wr, (wr.cell? ⟨bq, 0, none⟩ = some (.float .f32 (Q 0)) ∧ wr.cell? ⟨bq, 3, none⟩ = some (.float .f32 (Q 3)) ∧ wr.cell? ⟨bw, 0, none⟩ = some (.float .f32 (W 0)) ∧ wr.cell? ⟨bw, 3, none⟩ = some (.float .f32 (W 3)) ∧ wr.cell? ⟨bb, 0, none⟩ = some (.int .i64 X) ∧ wr.cell? ⟨bb, 1, none⟩ = some (.int .i64 Y) ∧ wr.cell? ⟨bb, 2, none⟩ = some (.int .i64 p) ∧ wr.cell? ⟨bb, 3, none⟩ = some (.int .i64 q) ∧ wr.cell? ⟨bb, 4, none⟩ = some (.slice A5 n2 c5) ∧ wr.cell? ⟨w.heap.size, 0, none⟩ = some (.int .i64 X) ∧ wr.cell? ⟨w.heap.size, 1, none⟩ = some (.int .i64 Y) ∧ wr.cell? ⟨w.heap.size, 2, none⟩ = some (.int .i64 p) ∧ wr.cell? ⟨w.heap.size, 3, none⟩ = some (.int .i64 q) ∧ wr.cell? ⟨w.heap.size, 4, none⟩ = some (.slice (some ⟨ga, 0, none⟩) n n) ∧ wr.cell? ⟨bn, 0, none⟩ = some (.int .i64 x) ∧ wr.cell? ⟨bn, 1, none⟩ = some (.int .i64 y) ∧ wr.cell? ⟨bn, 2, none⟩ = some (.int .i64 1) ∧ wr.cell? ⟨bn, 3, none⟩ = some (.int .i64 1) ∧ wr.cell? ⟨bn, 4, none⟩ = some (.slice (some ⟨bo, 0, none⟩) 4 c6) ∧ Kp L wr) → Calls Try.prog 32 #[frm X Y p q (some ⟨ga, 0, none⟩) n n, frm x y 1 1 (some ⟨bo, 0, none⟩) 4 c6] wr (FO wr X Y p q n2 F2)) := hid fun wr h => HPT.out wr _ c6 HC6.out.1 HC6.out.2 ((HL.out wr).1 h.2.2.2.2.2.2.2.2.2.2.2.2.2.2.2.2.2.2.2.out).1.fa ((HL.out wr).1 h.2.2.2.2.2.2.2.2.2.2.2.2.2.2.2.2.2.2.2.out).2.2.1.s
          have HSF : RowKit.Hid (∀ wr, (wr.cell? ⟨bq, 0, none⟩ = some (.float .f32 (Q 0)) ∧ wr.cell? ⟨bq, 3, none⟩ = some (.float .f32 (Q 3)) ∧ wr.cell? ⟨bw, 0, none⟩ = some (.float .f32 (W 0)) ∧ wr.cell? ⟨bw, 3, none⟩ = some (.float .f32 (W 3)) ∧ wr.cell? ⟨bb, 0, none⟩ = some (.int .i64 X) ∧ wr.cell? ⟨bb, 1, none⟩ = some (.int .i64 Y) ∧ wr.cell? ⟨bb, 2, none⟩ = some (.int .i64 p) ∧ wr.cell? ⟨bb, 3, none⟩ = some (.int .i64 q) ∧ wr.cell? ⟨bb, 4, none⟩ = some (.slice A5 n2 c5) ∧ wr.cell? ⟨w.heap.size, 0, none⟩ = some (.int .i64 X) ∧ wr.cell? ⟨w.heap.size, 1, none⟩ = some (.int .i64 Y) ∧ wr.cell? ⟨w.heap.size, 2, none⟩ = some (.int .i64 p) ∧ wr.cell? ⟨w.heap.size, 3, none⟩ = some (.int .i64 q) ∧ wr.cell? ⟨w.heap.size, 4, none⟩ = some (.slice (some ⟨ga, 0, none⟩) n n) ∧ wr.cell? ⟨bn, 0, none⟩ = some (.int .i64 x) ∧ wr.cell? ⟨bn, 1, none⟩ = some (.int .i64 y) ∧ wr.cell? ⟨bn, 2, none⟩ = some (.int .i64 1) ∧ wr.cell? ⟨bn, 3, none⟩ = some (.int .i64 1) ∧ wr.cell? ⟨bn, 4, none⟩ = some (.slice (some ⟨bo, 0, none⟩) 4 c6) ∧ Kp L wr) → ∀ (A2 : Option Addr) (c2 : Nat), Src wr A2 n2 F2 → Calls Try.prog 23 #[frm X Y p q A5 n2 c5, frm X Y p q A2 n2 c2] wr fun e w' => e = .returned (.bool true) ∧ Below wr.heap.size wr w') := hid fun wr h A2 c2 hs => sameFrame_any X Y p q n2 c5 c2 A5 A2 F2 F2 wr HPU.out.le ((HL.out wr).1 h.2.2.2.2.2.2.2.2.2.2.2.2.2.2.2.2.2.2.2.out).2.1.s hs fun _ _ => rfl
          clear HS9 HBQ9 HFB9 HBW9 HFN9 HPT
          go_region_held3 (fun w' => w'.cell? ⟨bq, 0, none⟩ = some (.float .f32 (Q 0)) ∧ w'.cell? ⟨bq, 3, none⟩ = some (.float .f32 (Q 3)) ∧ w'.cell? ⟨bw, 0, none⟩ = some (.float .f32 (W 0)) ∧ w'.cell? ⟨bw, 3, none⟩ = some (.float .f32 (W 3)) ∧ w'.cell? ⟨bb, 0, none⟩ = some (.int .i64 X) ∧ w'.cell? ⟨bb, 1, none⟩ = some (.int .i64 Y) ∧ w'.cell? ⟨bb, 2, none⟩ = some (.int .i64 p) ∧ w'.cell? ⟨bb, 3, none⟩ = some (.int .i64 q) ∧ w'.cell? ⟨bb, 4, none⟩ = some (.slice A5 n2 c5) ∧ w'.cell? ⟨w.heap.size, 0, none⟩ = some (.int .i64 X) ∧ w'.cell? ⟨w.heap.size, 1, none⟩ = some (.int .i64 Y) ∧ w'.cell? ⟨w.heap.size, 2, none⟩ = some (.int .i64 p) ∧ w'.cell? ⟨w.heap.size, 3, none⟩ = some (.int .i64 q) ∧ w'.cell? ⟨w.heap.size, 4, none⟩ = some (.slice (some ⟨ga, 0, none⟩) n n) ∧ w'.cell? ⟨bn, 0, none⟩ = some (.int .i64 x) ∧ w'.cell? ⟨bn, 1, none⟩ = some (.int .i64 y) ∧ w'.cell? ⟨bn, 2, none⟩ = some (.int .i64 1) ∧ w'.cell? ⟨bn, 3, none⟩ = some (.int .i64 1) ∧ w'.cell? ⟨bn, 4, none⟩ = some (.slice (some ⟨bo, 0, none⟩) 4 c6) ∧ Kp L w') (first | exact HST0.out | exact HON.out _ _ (by assumption) (by assumption) | assumption)
            (first
              | (go_at_call 31; refine (fix_any _ _).mono ?_; rintro e wf ⟨rfl, rfl⟩)
              | (go_at_call 30; refine (exact_yes _ _ (by first | exact HW0.out | exact HW3.out) _).mono ?_; rintro e wf ⟨rfl, rfl⟩)
              | (go_at_call 32; refine (HPA.out _ (by assumption)).mono ?_; rintro e wp ⟨A2, c2, rfl, hs, hb, _⟩)
              | (go_at_call 23; refine (HSF.out _ (by assumption) _ _ (by assumption)).mono ?_; rintro e ws ⟨rfl, hb⟩))
          all_goals
            rename_i hH
            have HK := hid ((HL.out _).1 hH.2.2.2.2.2.2.2.2.2.2.2.2.2.2.2.2.2.2.2.out)
            clear hH
            go_wp2_with fail
            go_meet
            case rel => exact HK.out.1
      case rest =>
        have hst := hcut
        first
          | (rename_i K0 hK0; exact hK0 _ _ (cutRest rx ry ra rb E P w wc X Y p q n ga F X' Y' p' q' n' gb G _ _ _ _ _ _ _ _ _ _ _ _ _ _ _ _ _ _ _ _ _ _ _ _ _ _ _ _ _ _ _ _ _ _ _ _ _ _ _ _ _ _ _ _ _ _ _ _ _ _ _ _ _ _ _ _ _ _ _ _ _ _ _ _ _ _ _ _ _ _ _ _ _ _ _ _ _ _ _ _ _ _ _ _ _ _ _ _ _ _ _ _ _ _ _ _ _ _ _ _ _ _ _ _ _ _ _ _ _ _ _ _ _ _ _ _ _ _ _ _ _ _ _ _ _ _ _ _ _ _ _ _ _ _ _ _ _ _ _ _ _ _ _ _ _ _ _ _ _ _ _ _ _ _ _ _ _ _ _ _ _ _ _ _ _ _ _ _ _ _ _ _ _ _ _ _ _ _ _ _ _ _ _ _ _ _ _ _ _ _ _ _ _ _ _ _ _ HFC.out hE hst))
          | (refine (by assumption : ∀ (a : Act) (w : World), Code.wp _ _ _ a w → _) _ _ ?_; exact cutRest rx ry ra rb E P w wc X Y p q n ga F X' Y' p' q' n' gb G _ _ _ _ _ _ _ _ _ _ _ _ _ _ _ _ _ _ _ _ _ _ _ _ _ _ _ _ _ _ _ _ _ _ _ _ _ _ _ _ _ _ _ _ _ _ _ _ _ _ _ _ _ _ _ _ _ _ _ _ _ _ _ _ _ _ _ _ _ _ _ _ _ _ _ _ _ _ _ _ _ _ _ _ _ _ _ _ _ _ _ _ _ _ _ _ _ _ _ _ _ _ _ _ _ _ _ _ _ _ _ _ _ _ _ _ _ _ _ _ _ _ _ _ _ _ _ _ _ _ _ _ _ _ _ _ _ _ _ _ _ _ _ _ _ _ _ _ _ _ _ _ _ _ _ _ _ _ _ _ _ _ _ _ _ _ _ _ _ _ _ _ _ _ _ _ _ _ _ _ _ _ _ _ _ _ _ _ _ _ _ _ _ _ _ _ _ HFC.out hE hst)
end Go.Proofs.Ytjlghjblpbckfaa
