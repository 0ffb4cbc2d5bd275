/-
  The law LevelsAsFrames, where region, depth and length are well.
-/
import Derived.Test.YtbpnbcnhlnnolaaQLaE
namespace Go.Proofs.Ytbpnbcnhlnnolaa
open Go.RowKit Go.Shelf

theorem first_step {d : Int} {L : Nat → Int} {t : Nat} {W Rw R' : Int} (hW : (W = 0 ∧ ∀ k, k < t → gdL d (L k)) ∨ (W = 3 ∧ ∃ k, k < t ∧ ¬ gdL d (L k)))
    (h1 : ((!inB (L t) 0 (mx d)) = true → Rw = 3) ∧ ((!inB (L t) 0 (mx d)) = false → Rw = 0)) (h2 : (W ≠ 0 → R' = W) ∧ (W = 0 → R' = Rw)) :
    (R' = 0 ∧ ∀ k, k < t + 1 → gdL d (L k)) ∨ (R' = 3 ∧ ∃ k, k < t + 1 ∧ ¬ gdL d (L k)) := by
  have hgd : inB (L t) 0 (mx d) = true ↔ gdL d (L t) := by simp [inB, gdL]
  rcases hW with ⟨rfl, ha⟩ | ⟨rfl, k, hk, hb⟩
  · have e := h2.2 rfl
    cases hi : inB (L t) 0 (mx d) with
    | true =>
      refine .inl ⟨e.trans (h1.2 (by simp [hi])), fun k hk => ?_⟩
      rcases Nat.lt_or_ge k t with h3 | h3
      · exact ha k h3
      · obtain rfl : k = t := by omega
        exact hgd.1 hi
    | false => exact .inr ⟨e.trans (h1.1 (by simp [hi])), t, by omega, fun h => by have := hgd.2 h; simp [hi] at this⟩
  · exact .inr ⟨h2.1 (by decide), k, by omega, hb⟩

/-- The boxes of the law where all is well, and what the frame reads as. -/
structure L2 (X Y : Int) (p q n D : Nat) (gb g : Nat) (G : Nat → Nat) (b off : Nat) (L : Nat → Int) (w : World) (wr : World) : Prop where
  k : LB X Y p q gb #[.int .i64 X, .int .i64 Y, .int .i64 p, .int .i64 q, .slice (some ⟨g, 0, none⟩) n D] w wr
  rd : Rd wr g 0 n G
  gl : g < wr.heap.size
  li : RdI wr b off n L
  bl : b < wr.heap.size
theorem L2.below {X Y : Int} {p q n D gb g : Nat} {G : Nat → Nat} {b off : Nat} {L : Nat → Int} {w wr w1 : World} (h : L2 X Y p q n D gb g G b off L w wr) (hb : Below wr.heap.size wr w1) : L2 X Y p q n D gb g G b off L w w1 :=
  ⟨h.k.below hb, h.rd.below hb h.gl, Nat.lt_of_lt_of_le h.gl hb.size, h.li.below hb h.bl, Nat.lt_of_lt_of_le h.bl hb.size⟩

set_option maxRecDepth 100000 in
set_option maxHeartbeats 8000000 in
theorem laf_ok (X Y : Int) (p q : Nat) (d : Int) (b off n c : Nat) (L : Nat → Int) (w : World) (h : regE X Y p q = 0) (hd : 1 ≤ d ∧ d ≤ 16) (hn : (n : Int) = 4 * p * q) (hnc : n ≤ c) (hb0 : b < w.heap.size) (hR : RdI w b off n L) :
    Calls Try.prog 12 #[reg X Y p q, .slice (some ⟨b, off, none⟩) n c, .int .i64 d] w fun e w' => e = .returned (.bool true) ∧ Below w.heap.size w w' := by
  have HC := hid fun (w1 : World) (hb : Below w.heap.size w w1) => frame_any X Y p q d b off n c L w1 h hd hn hnc (Nat.lt_of_lt_of_le hb0 hb.size) (hR.below hb hb0)
  have HR := hid hR
  have HVO := hid fun k w (hg : gdL d (L k)) => valueOf_any (L k) d hd hg.1 hg.2 w
  have hp := pw_mx d
  have hmb := mx_bound hd
  have hd1 := hd.1
  have hd2 := hd.2
  obtain ⟨a1, a2, b1, b2, ab, x1, x2, y1, y2⟩ := regE_zero h
  obtain ⟨p1, p2⟩ := prod_le a1 a2 b1 b2
  obtain ⟨q1, q2⟩ := prod4_le p1 ab
  have r1 : 4 * (p : Int) ≤ 1024 := by omega
  have hn2 : n ≤ 65536 := by omega
  have z8 : ((n : Int) != 4 * p * q) = false := by simp [hn]
  have HI : RowKit.Hid (inB d 1 16 = true) := hid (by simp [inB]; omega)
  have HE := hid h
  clear hn hd h hR
  go_enter Try.func12, Try.ntmps12
  go_wp2_with fail
  refine (HC.out _ ((Below.refl _ _).alloc (Nat.le_refl _) _)).mono ?_
  rintro e w1 (⟨⟨g, D, rfl, hD1, hD2, hg1, hg2, hrd, hb⟩, hall⟩ | ⟨⟨rfl, hb⟩, k0, hk0, hbad⟩)
  · have H1 := hid (LB.new (vs := #[.int .i64 X, .int .i64 Y, .int .i64 p, .int .i64 q, .slice (some ⟨g, 0, none⟩) n D]) hb)
    have f0 := H1.out.f.cell 0
    have f1 := H1.out.f.cell 1
    have f2 := H1.out.f.cell 2
    have f3 := H1.out.f.cell 3
    simp at f0 f1 f2 f3
    have H1r := hid (And.intro hrd hg2)
    clear hrd hg1 hg2 hD1 hD2
    clear hb HC
    go_wp2_with fail
    refine (regionError_any _ _ _ _ _).mono ?_
    rintro e w2 ⟨rfl, hb⟩
    have H2 := hid (H1.out.below hb)
    have hbe := H2.out.be
    have H2r : RowKit.Hid (Rd w2 g 0 n (fun k => vaC (L k) d) ∧ g < w2.heap.size) := hid ⟨(H1r.out.1.below ((Below.refl _ _).alloc (Nat.le_refl _) _) H1r.out.2).below hb (by have := H1r.out.2; simp; omega), by have := H1r.out.2; have := hb.size; simp at this; omega⟩
    clear H1r hbe
    generalize w1.heap.size = gb at *
    clear hb f0 f1 f2 f3 H1
    have f2 := H2.out.f.cell 2
    have f3 := H2.out.f.cell 3
    simp at f2 f3
    go_wp2_with (first
      | (go_at_call 69; refine (in_any _ _ _ _).mono ?_; rintro e w' ⟨rfl, rfl⟩)
      | (go_at_call 40; refine (when_any _ _ _).mono ?_; rintro e w' ⟨R1, rfl, hR1, hR2, rfl⟩; have HR1 := hid (And.intro hR1 hR2); clear hR1 hR2))
    refine (first_any _ _ _ _ (Blk.new_at _ _ _ rfl)).mono ?_
    rintro e w' ⟨R2, rfl, hR3, hR4, hw'⟩
    have HR2 := hid (And.intro hR3 hR4)
    have H3 : RowKit.Hid (LB X Y p q gb #[.int .i64 X, .int .i64 Y, .int .i64 p, .int .i64 q, .slice (some ⟨g, 0, none⟩) n D] w w') := by
      show LB X Y p q gb #[.int .i64 X, .int .i64 Y, .int .i64 p, .int .i64 q, .slice (some ⟨g, 0, none⟩) n D] w w'
      rw [← hw']
      exact H2.out.below ((Below.refl _ _).alloc (Nat.le_refl _) _)
    have H3r : RowKit.Hid (Rd w' g 0 n (fun k => vaC (L k) d) ∧ g < w'.heap.size) := by
      show Rd w' g 0 n (fun k => vaC (L k) d) ∧ g < w'.heap.size
      rw [← hw']
      exact ⟨H2r.out.1.below ((Below.refl _ _).alloc (Nat.le_refl _) _) H2r.out.2, by have := H2r.out.2; simp; omega⟩
    clear H2r
    clear hR3 hR4 hw' f2 f3 H2
    have f2 := H3.out.f.cell 2
    have f3 := H3.out.f.cell 3
    simp at f2 f3
    go_wp2_with (go_at_call 40; refine (when_any _ _ _).mono ?_; rintro e w' ⟨R3, rfl, hR1, hR2, rfl⟩; have HR3 := hid (And.intro hR1 hR2); clear hR1 hR2)
    refine (first_any _ _ _ _ (Blk.new_at _ _ _ rfl)).mono ?_
    rintro e w'' ⟨R4, rfl, hR3, hR4, hw'⟩
    have hR : R4 = 0 := by
      have h1 := HR1.out
      have h2 := HR2.out
      have h3 := HR3.out
      have e0 := HE.out
      have e1 := h1.2 (by rw [HI.out]; rfl)
      have e2 := (h2.2 (by first | trivial | exact e0)).trans e1
      exact (hR4 e2).trans (h3.2 (by first | trivial | rfl))
    have H4 : RowKit.Hid (LB X Y p q gb #[.int .i64 X, .int .i64 Y, .int .i64 p, .int .i64 q, .slice (some ⟨g, 0, none⟩) n D] w w'') := by
      show LB X Y p q gb #[.int .i64 X, .int .i64 Y, .int .i64 p, .int .i64 q, .slice (some ⟨g, 0, none⟩) n D] w w''
      rw [← hw']
      exact H3.out.below ((Below.refl _ _).alloc (Nat.le_refl _) _)
    have H4r : RowKit.Hid (Rd w'' g 0 n (fun k => vaC (L k) d) ∧ g < w''.heap.size) := by
      show Rd w'' g 0 n (fun k => vaC (L k) d) ∧ g < w''.heap.size
      rw [← hw']
      exact ⟨H3r.out.1.below ((Below.refl _ _).alloc (Nat.le_refl _) _) H3r.out.2, by have := H3r.out.2; simp; omega⟩
    clear H3r
    subst hR
    clear hR3 hR4 hw' f2 f3 H3 HR1 HR2 HR3
    go_wp2_with fail
    go_loopw [9, 46] (fun u i wr => ∃ t : Nat, t ≤ n ∧ i = .int .i64 t ∧ ∃ W : Int, u = .int .i64 W ∧ L2 X Y p q n D gb g (fun k => vaC (L k) d) b off L w wr ∧ ((W = 0 ∧ ∀ k, k < t → gdL d (L k)) ∨ (W = 3 ∧ ∃ k, k < t ∧ ¬ gdL d (L k)))) (fun _ i _ => n - (intOf i).toNat)
    case atStart => exact ⟨0, Nat.zero_le _, rfl, 0, rfl, ⟨H4.out, H4r.out.1, H4r.out.2, HR.out.below H4.out.be hb0, Nat.lt_of_lt_of_le hb0 H4.out.be.size⟩, .inl ⟨rfl, fun k hk => absurd hk (by omega)⟩⟩
    case round =>
      clear H4 H4r
      obtain ⟨t, ht, rfl, W, rfl, hI, hW⟩ := hrel
      have HH := hid hI
      have HW := hid hW
      by_cases hlt : t < n
      · have hc := hI.li t hlt
        clear hI hW z8 q1 q2 r1 p1 p2 ab
        go_wp2_with (first
          | (go_at_call 69; refine (in_any _ _ _ _).mono ?_; rintro e w' ⟨rfl, rfl⟩)
          | (go_at_call 40; refine (when_any _ _ _).mono ?_; rintro e w' ⟨R1, rfl, hR1, hR2, rfl⟩; have HR1 := hid (And.intro hR1 hR2); clear hR1 hR2))
        refine (first_any _ _ _ _ (Blk.new_at _ _ _ rfl)).mono ?_
        rintro e w' ⟨R2, rfl, hR3, hR4, hw'⟩
        have HR2 := hid (And.intro hR3 hR4)
        have HH2 := hid (HH.out.below ((Below.refl _ _).alloc (Nat.le_refl _) (.cells #[.int .i64 W, .int .i64 R1] 30)))
        rw [hw'] at HH2
        clear hR3 hR4 hw' hc
        go_wp2_with fail
        go_roundw
        case rel => exact ⟨t + 1, by omega, by go_num, R2, rfl, HH2.out, first_step HW.out HR1.out HR2.out⟩
        case measure => simp [intOf]; omega
      · obtain rfl : t = n := by omega
        clear hI hW
        have hW0 : W = 0 := by
          rcases HW.out with h | ⟨_, k, hk, hb⟩
          · exact h.1
          · exact absurd (hall k hk) hb
        subst hW0
        clear HW
        have HA := hid hall
        have g0 := HH.out.k.g.cell 0
        have g1 := HH.out.k.g.cell 1
        have g2 := HH.out.k.g.cell 2
        have g3 := HH.out.k.g.cell 3
        have g4 := HH.out.k.g.cell 4
        have f0 := HH.out.k.f.cell 0
        have f1 := HH.out.k.f.cell 1
        have f2 := HH.out.k.f.cell 2
        have f3 := HH.out.k.f.cell 3
        simp at g0 g1 g2 g3 g4 f0 f1 f2 f3
        clear hall
        go_wp2_with (go_at_call 26; refine (finishes_any _).mono ?_; rintro e w' ⟨rfl, n0, rfl⟩)
        have HH2 := hid (HH.out.below (below_drewN (Below.refl _ _) n0))
        clear HH g0 g1 g2 g3 g4 f0 f1 f2 f3
        go_loopw [12, 95] (fun v i wr => v = .bool true ∧ ∃ k : Nat, k ≤ t ∧ i = .int .i64 k ∧ L2 X Y p q t D gb g (fun k => vaC (L k) d) b off L w wr) (fun _ i _ => t - (intOf i).toNat)
        case atStart => exact ⟨rfl, 0, Nat.zero_le _, rfl, HH2.out⟩
        case round =>
          clear HH2
          obtain ⟨rfl, k, hk, rfl, hI⟩ := hrel
          have HJ := hid hI
          by_cases hkt : k < t
          · have hg := HA.out k hkt
            have HV := hid fun w => HVO.out k w hg
            clear hI hg z8 q1 q2 r1 p1 p2 ab
            obtain ⟨wo, hwo⟩ : ∃ wo : World, wo = wr := ⟨_, rfl⟩
            subst hwo
            go_wp2_with fail
            have HK : RowKit.Hid (wo.drew.cell? ⟨gb, 4, none⟩ = some (.slice (some ⟨g, 0, none⟩) t D) ∧ wo.drew.cell? ⟨g, k, none⟩ = some (.float .f32 (vaC (L k) d)) ∧ wo.drew.cell? ⟨b, off + k, none⟩ = some (.int .i64 (L k)) ∧ L2 X Y p q t D gb g (fun k => vaC (L k) d) b off L w wo.drew) :=
              ⟨HJ.out.k.g.cell 4, by have := HJ.out.rd k hkt; rw [Nat.zero_add] at this; exact this, HJ.out.li k hkt, HJ.out.below (Below.refl _ _).drew⟩
            go_region_held3 (fun w' => w'.cell? ⟨gb, 4, none⟩ = some (.slice (some ⟨g, 0, none⟩) t D) ∧ w'.cell? ⟨g, k, none⟩ = some (.float .f32 (vaC (L k) d)) ∧ w'.cell? ⟨b, off + k, none⟩ = some (.int .i64 (L k)) ∧ L2 X Y p q t D gb g (fun k => vaC (L k) d) b off L w w')
              (first | (with_reducible exact HK.out) | (with_reducible assumption))
              (first
                | (go_at_call 72; refine (HV.out _).mono ?_; rintro e w' ⟨rfl, rfl⟩)
                | (go_at_call 49; refine (same_yes _ _ rfl _).mono ?_; rintro e w' ⟨rfl, rfl⟩))
            all_goals
              rename_i hH
              have HZ := hid hH.2.2.2
              clear hH HK
              go_wp2_with fail
              go_roundw
              case rel => exact ⟨rfl, k + 1, by omega, by go_num, HZ.out⟩
              case measure => simp [intOf]; omega
          · obtain rfl : k = t := by omega
            clear hI
            go_wp2_with fail
            go_ret
            exact ⟨rfl, HJ.out.k.be⟩
  · have H1 := hid (LB.new (vs := zfrm) hb)
    have f0 := H1.out.f.cell 0
    have f1 := H1.out.f.cell 1
    have f2 := H1.out.f.cell 2
    have f3 := H1.out.f.cell 3
    simp at f0 f1 f2 f3
    clear hb HC
    go_wp2_with fail
    refine (regionError_any _ _ _ _ _).mono ?_
    rintro e w2 ⟨rfl, hb⟩
    have H2 := hid (H1.out.below hb)
    generalize w1.heap.size = gb at *
    clear hb f0 f1 f2 f3 H1
    have f2 := H2.out.f.cell 2
    have f3 := H2.out.f.cell 3
    simp at f2 f3
    go_wp2_with (first
      | (go_at_call 69; refine (in_any _ _ _ _).mono ?_; rintro e w' ⟨rfl, rfl⟩)
      | (go_at_call 40; refine (when_any _ _ _).mono ?_; rintro e w' ⟨R1, rfl, hR1, hR2, rfl⟩; have HR1 := hid (And.intro hR1 hR2); clear hR1 hR2))
    refine (first_any _ _ _ _ (Blk.new_at _ _ _ rfl)).mono ?_
    rintro e w' ⟨R2, rfl, hR3, hR4, hw'⟩
    have HR2 := hid (And.intro hR3 hR4)
    have H3 : RowKit.Hid (LB X Y p q gb zfrm w w') := by
      show LB X Y p q gb zfrm w w'
      rw [← hw']
      exact H2.out.below ((Below.refl _ _).alloc (Nat.le_refl _) _)
    clear hR3 hR4 hw' f2 f3 H2
    have f2 := H3.out.f.cell 2
    have f3 := H3.out.f.cell 3
    simp at f2 f3
    go_wp2_with (go_at_call 40; refine (when_any _ _ _).mono ?_; rintro e w' ⟨R3, rfl, hR1, hR2, rfl⟩; have HR3 := hid (And.intro hR1 hR2); clear hR1 hR2)
    refine (first_any _ _ _ _ (Blk.new_at _ _ _ rfl)).mono ?_
    rintro e w'' ⟨R4, rfl, hR3, hR4, hw'⟩
    have hR : R4 = 0 := by
      have h1 := HR1.out
      have h2 := HR2.out
      have h3 := HR3.out
      have e0 := HE.out
      have e1 := h1.2 (by rw [HI.out]; rfl)
      have e2 := (h2.2 (by first | trivial | exact e0)).trans e1
      exact (hR4 e2).trans (h3.2 (by first | trivial | rfl))
    have H4 : RowKit.Hid (LB X Y p q gb zfrm w w'') := by
      show LB X Y p q gb zfrm w w''
      rw [← hw']
      exact H3.out.below ((Below.refl _ _).alloc (Nat.le_refl _) _)
    subst hR
    clear hR3 hR4 hw' f2 f3 H3 HR1 HR2 HR3
    go_wp2_with fail
    go_loopw [9, 46] (fun u i wr => ∃ t : Nat, t ≤ n ∧ i = .int .i64 t ∧ ∃ W : Int, u = .int .i64 W ∧ LB X Y p q gb zfrm w wr ∧ ((W = 0 ∧ ∀ k, k < t → gdL d (L k)) ∨ (W = 3 ∧ ∃ k, k < t ∧ ¬ gdL d (L k)))) (fun _ i _ => n - (intOf i).toNat)
    case atStart => exact ⟨0, Nat.zero_le _, rfl, 0, rfl, H4.out, .inl ⟨rfl, fun k hk => absurd hk (by omega)⟩⟩
    case round =>
      clear H4
      obtain ⟨t, ht, rfl, W, rfl, hI, hW⟩ := hrel
      have HH := hid hI
      have HW := hid hW
      by_cases hlt : t < n
      · have hc := (hI.be.cell (p := ⟨b, off + t, none⟩) hb0).trans (HR.out t hlt)
        clear hI hW z8 q1 q2 r1 p1 p2 ab
        go_wp2_with (first
          | (go_at_call 69; refine (in_any _ _ _ _).mono ?_; rintro e w' ⟨rfl, rfl⟩)
          | (go_at_call 40; refine (when_any _ _ _).mono ?_; rintro e w' ⟨R1, rfl, hR1, hR2, rfl⟩; have HR1 := hid (And.intro hR1 hR2); clear hR1 hR2))
        refine (first_any _ _ _ _ (Blk.new_at _ _ _ rfl)).mono ?_
        rintro e w' ⟨R2, rfl, hR3, hR4, hw'⟩
        have HR2 := hid (And.intro hR3 hR4)
        have HH2 := hid (HH.out.below ((Below.refl _ _).alloc (Nat.le_refl _) (.cells #[.int .i64 W, .int .i64 R1] 30)))
        rw [hw'] at HH2
        clear hR3 hR4 hw' hc
        go_wp2_with fail
        go_roundw
        case rel => exact ⟨t + 1, by omega, by go_num, R2, rfl, HH2.out, first_step HW.out HR1.out HR2.out⟩
        case measure => simp [intOf]; omega
      · obtain rfl : t = n := by omega
        clear hI hW
        have hW3 : W = 3 := by
          rcases HW.out with ⟨_, h⟩ | h
          · exact absurd (h k0 hk0) hbad
          · exact h.1
        subst hW3
        clear HW
        have z0 := HH.out.g.cell 0
        have z1 := HH.out.g.cell 1
        have z2 := HH.out.g.cell 2
        have z3 := HH.out.g.cell 3
        have z4 := HH.out.g.cell 4
        simp at z0 z1 z2 z3 z4
        go_wp2_with (first | (go_at_call 26; refine (finishes_any _).mono ?_; rintro e w' ⟨rfl, n0, rfl⟩) | (go_at_call 33; refine (none_any _).mono ?_; rintro e w5 ⟨rfl, hb5⟩))
        go_ret
        exact ⟨rfl, below_to (below_drewN HH.out.be _) hb5⟩
end Go.Proofs.Ytbpnbcnhlnnolaa
