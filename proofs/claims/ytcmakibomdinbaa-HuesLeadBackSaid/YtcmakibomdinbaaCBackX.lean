/-
  Colours: the law on hues that lead back, walked.
-/
import Derived.Test.YtcmakibomdinbaaCBackW
namespace Go.Proofs.Ytcmakibomdinbaa
open Go.RowKit
attribute [local go_sem] run_store_float

/-- The two pixels stand. -/
structure QK (w : World) (bq : Nat) (f G : Nat → Nat) (wr : World) : Prop where
  p : Blk wr w.heap.size 24 (pixA f)
  q : Blk wr bq 24 (pixA G)
  be : Below w.heap.size w wr
abbrev QCel (w : World) (bq : Nat) (f G : Nat → Nat) (w' : World) : Prop := w'.cell? ⟨w.heap.size, 3, none⟩ = some (.float .f32 (f 3)) ∧ w'.cell? ⟨bq, 3, none⟩ = some (.float .f32 (G 3)) ∧ QK w bq f G w'
section
variable {w wr w1 : World} {bq : Nat} {f G : Nat → Nat}
theorem QK.held (h : QK w bq f G wr) : QCel w bq f G wr := ⟨h.p.cell 3, h.q.cell 3, h⟩
theorem QK.below (h : QK w bq f G wr) (hb : Below wr.heap.size wr w1) : QK w bq f G w1 := ⟨h.p.below hb h.p.lt, h.q.below hb h.q.lt, below_to h.be hb⟩
theorem QCel.on (hb : Below wr.heap.size wr w1) (h : QCel w bq f G wr) : QCel w bq f G w1 := (h.2.2.below hb).held
theorem QK.drew (h : QK w bq f G wr) : QK w bq f G wr.drew := h.below (below_drewN (Below.refl _ _) 1)
theorem QK.drewN (h : QK w bq f G wr) (n : Nat) : QK w bq f G (wr.drewN n) := h.below (below_drewN (Below.refl _ _) n)
end

set_option maxRecDepth 100000 in
set_option maxHeartbeats 4000000 in
theorem backLaw_any (f : Nat → Nat) (w : World) : Calls Try.prog 10 #[pix f] w fun e w' => e = .returned (.bool true) ∧ Below w.heap.size w w' := by
  have k1 := c20
  have k2 := c20d
  rw [pix_cells]
  go_enter Try.func10, Try.ntmps10
  go_wp2_with fail
  go_loopw [12] (fun i wr => ∃ k : Nat, k ≤ 3 ∧ i = .int .i64 k ∧ (∀ j, j < k → inR (f j)) ∧ ∃ n, wr = (w.alloc (.cells (pixA f) 24)).drewN n) (fun i _ => 3 - (intOf i).toNat)
  case atStart => exact ⟨0, by omega, rfl, fun j hj => by omega, 0, rfl⟩
  case round =>
    obtain ⟨k, hk, rfl, hin, n, rfl⟩ := hrel
    have HIN := hid hin
    clear hin
    by_cases hlt : k < 3
    · by_cases hR : inR (f k)
      · have HR : RowKit.Hid (∀ j, j < k + 1 → inR (f j)) := hid fun j hj => by
          by_cases e : j = k
          · subst e; exact hR
          · exact HIN.out j (by omega)
        obtain ⟨ha, hb⟩ := hR
        have hk3 : k = 0 ∨ k = 1 ∨ k = 2 := by omega
        by_cases a1 : (FloatKind.f32.format.order (f k) 897581056 == some .gt) = true
        case' neg =>
          have a2 : (FloatKind.f32.format.order (f k) 897581056 == some .eq) = true := ha.resolve_left a1
          replace a1 := Bool.eq_false_iff.2 a1
        all_goals
          by_cases b1 : (FloatKind.f32.format.order (f k) 1233125376 == some .lt) = true
          case' neg =>
            have b2 : (FloatKind.f32.format.order (f k) 1233125376 == some .eq) = true := hb.resolve_left b1
            replace b1 := Bool.eq_false_iff.2 b1
          all_goals
            clear ha hb
            rcases hk3 with rfl | rfl | rfl
            all_goals
              go_wp2_with (go_at_call 18; refine (ldexp_20 _).mono ?_; rintro e w' ⟨rfl, m, rfl⟩)
              go_roundw
              case rel => first | exact ⟨1, by omega, rfl, HR.out, _, rfl⟩ | exact ⟨2, by omega, rfl, HR.out, _, rfl⟩ | exact ⟨3, by omega, rfl, HR.out, _, rfl⟩
              case measure => simp [intOf]
      · have hk3 : k = 0 ∨ k = 1 ∨ k = 2 := by omega
        have hN : ((FloatKind.f32.format.order (f k) 897581056 == some .gt) = false ∧ (FloatKind.f32.format.order (f k) 897581056 == some .eq) = false) ∨ (((FloatKind.f32.format.order (f k) 897581056 == some .gt) = true ∨ (FloatKind.f32.format.order (f k) 897581056 == some .eq) = true) ∧ (FloatKind.f32.format.order (f k) 1233125376 == some .lt) = false ∧ (FloatKind.f32.format.order (f k) 1233125376 == some .eq) = false) := by
          unfold inR at hR
          generalize (FloatKind.f32.format.order (f k) 897581056 == some .gt) = A1 at *
          generalize (FloatKind.f32.format.order (f k) 897581056 == some .eq) = A2 at *
          generalize (FloatKind.f32.format.order (f k) 1233125376 == some .lt) = B1 at *
          generalize (FloatKind.f32.format.order (f k) 1233125376 == some .eq) = B2 at *
          revert hR
          cases A1 <;> cases A2 <;> cases B1 <;> cases B2 <;> simp
        clear hR
        rcases hN with ⟨a1, a2⟩ | ⟨ha, b1, b2⟩
        case' inr =>
          by_cases a1 : (FloatKind.f32.format.order (f k) 897581056 == some .gt) = true
          case' neg =>
            have a2 : (FloatKind.f32.format.order (f k) 897581056 == some .eq) = true := ha.resolve_left a1
            replace a1 := Bool.eq_false_iff.2 a1
          all_goals clear ha
        all_goals
          rcases hk3 with rfl | rfl | rfl
          all_goals
            go_wp2_with (first
              | (go_at_call 18; refine (ldexp_20 _).mono ?_; rintro e w' ⟨rfl, m, rfl⟩)
              | (go_at_call 23; refine (colours_any _).mono ?_; rintro e w' ⟨rfl, hb⟩))
            go_ret
            exact ⟨rfl, ((below_drewN ((Below.refl _ _).alloc (Nat.le_refl _) _) _).trans (hb.mono (by simp)))⟩
    · obtain rfl : k = 3 := by omega
      obtain ⟨L, hL⟩ := bok_of f (HIN.out 0 (by omega)) (HIN.out 1 (by omega)) (HIN.out 2 (by omega))
      have HL := hid hL
      clear hL HIN
      go_wp2_with fail
      refine (hsvp2 f _).mono ?_
      rintro e w1 ⟨rfl, hb1⟩
      have b0 : Blk w1 w.heap.size 24 (pixA f) := Blk.below ((Blk.new_at _ _ _ rfl).drewN _) hb1 (by simp)
      have hbe : Below w.heap.size w w1 := (below_drewN ((Below.refl _ _).alloc (Nat.le_refl _) _) _).trans (hb1.mono (by simp))
      have x3 := b0.cell 3
      simp at x3
      have HB0 := hid b0
      have HE := hid hbe
      clear b0 hbe hb1
      go_wp2_with fail
      refine (from_any _ _ _ _ _).mono ?_
      rintro e w2 ⟨rfl, hb2⟩
      have px := pix_cells (fromC (hsvH f) (hsvS f) (hsvV f) (f 3))
      have b0 : Blk w2 w.heap.size 24 (pixA f) := HB0.out.below hb2 HB0.out.lt
      have hbe : Below w.heap.size w w2 := below_to HE.out hb2
      have HB1 := hid b0
      have HE1 := hid hbe
      clear b0 hbe hb2 x3
      go_wp2_with fail
      generalize hG : fromC (hsvH f) (hsvS f) (hsvV f) (f 3) = G at *
      generalize hW : World.alloc w2 _ = W
      have c0 : Blk W w.heap.size 24 (pixA f) := by rw [← hW]; exact HB1.out.alloc _
      have c1 : Blk W w2.heap.size 24 (pixA G) := by rw [← hW]; exact Blk.new_at _ _ _ rfl
      have cb : Below w.heap.size w W := by rw [← hW]; exact HE1.out.alloc HE1.out.size _
      have p0 := c0.cell 0
      have p1 := c0.cell 1
      have p2 := c0.cell 2
      have p3 := c0.cell 3
      have q0 := c1.cell 0
      have q1 := c1.cell 1
      have q2 := c1.cell 2
      have q3 := c1.cell 3
      simp at p0 p1 p2 p3 q0 q1 q2 q3
      have C0 := hid c0
      have C1 := hid c1
      have CB := hid cb
      have HG3 : RowKit.Hid (G 3 = cl (f 3)) := hid (by rw [← hG]; rfl)
      obtain ⟨u1, u2⟩ := widF _ HL.out.nv
      have NP := hid HL.out.np
      have NQ : RowKit.Hid (∀ k, k < 3 → isN .f32 (G k) = false) := hid (by rw [← hG]; exact HL.out.nq)
      have DF : RowKit.Hid (∀ k, k < 3 → ∃ z, floatBits .sub .f64 (wid (G k)) (wid (f k)) = some z ∧ (FloatKind.f64.format.order (absB z) L == some .gt) = false) := hid (by rw [← hG]; exact HL.out.df)
      have LD := hid HL.out.ld
      clear hG hW c0 c1 cb HL HB0 HE HB1 HE1 k1 k2 px
      go_loopw [39] (fun i wr => ∃ k : Nat, k ≤ 3 ∧ i = .int .i64 k ∧ ∃ n, wr = W.drewN n) (fun i _ => 3 - (intOf i).toNat)
      case atStart => exact ⟨0, by omega, rfl, 0, rfl⟩
      case round =>
        obtain ⟨k, hk, rfl, n, rfl⟩ := hrel
        by_cases hlt : k < 3
        · obtain ⟨z, hz, hzl⟩ := DF.out k hlt
          have z1 := fun w => fopv hz w
          have z2 := fdrv hz
          obtain ⟨v1, v2⟩ := widF _ (NP.out k hlt)
          obtain ⟨v3, v4⟩ := widF _ (NQ.out k hlt)
          have hk3 : k = 0 ∨ k = 1 ∨ k = 2 := by omega
          clear hz
          rcases hk3 with rfl | rfl | rfl
          all_goals
            go_wp2_with fail
            go_region_held3 (fun w' => w'.cell? ⟨w.heap.size, 0, none⟩ = some (.float .f32 (f 0)) ∧ w'.cell? ⟨w.heap.size, 1, none⟩ = some (.float .f32 (f 1)) ∧ w'.cell? ⟨w.heap.size, 2, none⟩ = some (.float .f32 (f 2)) ∧ w'.cell? ⟨w2.heap.size, 0, none⟩ = some (.float .f32 (G 0)) ∧ w'.cell? ⟨w2.heap.size, 1, none⟩ = some (.float .f32 (G 1)) ∧ w'.cell? ⟨w2.heap.size, 2, none⟩ = some (.float .f32 (G 2))) (go_keep)
              (first
                | (go_at_call 17; refine (abs_any _ _).mono ?_; rintro e w' ⟨rfl, rfl⟩)
                | (go_at_call 18; refine (LD.out _).mono ?_; rintro e w' ⟨rfl, m, rfl⟩))
            all_goals
              go_wp2_with fail
              go_roundw
              case rel => first | exact ⟨1, by omega, rfl, _, rfl⟩ | exact ⟨2, by omega, rfl, _, rfl⟩ | exact ⟨3, by omega, rfl, _, rfl⟩
              case measure => simp [intOf]
        · obtain rfl : k = 3 := by omega
          have hq : QK w w2.heap.size f G (W.drewN n) := QK.drewN ⟨C0.out, C1.out, CB.out⟩ n
          have HQ := hid hq
          clear hq DF LD NP NQ
          go_wp2_with fail
          go_region_held3 (fun w' => w'.cell? ⟨w.heap.size, 3, none⟩ = some (.float .f32 (f 3)) ∧ w'.cell? ⟨w2.heap.size, 3, none⟩ = some (.float .f32 (G 3)) ∧ QK w w2.heap.size f G w')
            (first | exact HQ.out.drew.held | exact QCel.on (by assumption) (by assumption) | assumption)
            (first
              | (go_at_call 23; refine (colours_any _).mono ?_; rintro e w3 ⟨rfl, hb⟩)
              | (go_at_call 35; refine (fix_any _ _).mono ?_; rintro e w3 ⟨rfl, rfl⟩)
              | (go_at_call 43; refine (same_yes _ _ HG3.out _).mono ?_; rintro e w3 ⟨rfl, rfl⟩))
          all_goals
            rename_i hH
            have H3 := hid hH.2.2
            clear hH
            go_wp2_with fail
            go_ret
            exact ⟨rfl, H3.out.be⟩
end Go.Proofs.Ytcmakibomdinbaa
