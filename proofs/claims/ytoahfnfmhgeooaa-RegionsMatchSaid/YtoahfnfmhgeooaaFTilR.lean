/-
  Tiles, in the reference; no tiles.
-/
import Derived.Test.YtoahfnfmhgeooaaFTil
namespace Go.Proofs.Ytoahfnfmhgeooaa
open Go.RowKit

theorem div_bd (a s : Int) (s1 : 1 ≤ s) (a1 : -4194304 ≤ a) (a2 : a ≤ 4194304) : -4194305 ≤ a / s ∧ a / s ≤ 4194304 := by
  obtain ⟨q, r, hq, hr, hc, q1, q2⟩ := quo a s s1 a1 a2
  rcases hc with ⟨_, h, _⟩ | ⟨_, h, _⟩ <;> omega

set_option maxRecDepth 100000 in
theorem tilesp_bad (x y a b s : Int) (w : World) (h : ¬ regE x y a b = 0) : Calls Try.prog 17 #[reg x y a b, .int .i64 s] w fun e w' => e = .returned (.tuple #[.slice none 0 0, .int .i64 (regE x y a b)]) ∧ Below w.heap.size w w' := by
  have z : (regE x y a b != 0) = true := by simp [h]
  clear h
  go_enter Try.func17, Try.ntmps17
  go_wp2_with fail
  refine (checkRegion_any _ _ _ _ _).mono ?_
  rintro e w1 ⟨rfl, hb⟩
  go_wp2_with fail
  go_ret2
  exact ⟨rfl, below_box hb⟩

set_option maxRecDepth 100000 in
theorem tilesp_range (x y a b s : Int) (w : World) (h : regE x y a b = 0) (hs : sideB s = false) : Calls Try.prog 17 #[reg x y a b, .int .i64 s] w fun e w' => e = .returned (.tuple #[.slice none 0 0, .int .i64 3]) ∧ Below w.heap.size w w' := by
  have z : (regE x y a b != 0) = false := by simp [h]
  clear h
  by_cases hs1 : s < 1
  case' neg => have hs2 : 256 < s := by rcases sideB_false.1 hs with h | h; exact absurd h hs1; exact h
  all_goals
    go_enter Try.func17, Try.ntmps17
    go_wp2_with fail
    refine (checkRegion_any _ _ _ _ _).mono ?_
    rintro e w1 ⟨rfl, hb⟩
    go_wp2_with fail
    refine (isSide_any _ _).mono ?_
    rintro e w' ⟨rfl, rfl⟩
    go_wp2_with fail
    go_ret2
    exact ⟨rfl, below_box hb⟩

set_option maxRecDepth 100000 in
theorem tilesr_bad (x y a b s : Int) (w : World) (h : ¬ regE x y a b = 0) : Calls Try.prog 18 #[reg x y a b, .int .i64 s] w fun e w' => e = .returned (.tuple #[.slice none 0 0, .int .i64 (regE x y a b)]) ∧ Below w.heap.size w w' := by
  have z : (regE x y a b != 0) = true := by simp [h]
  clear h
  go_enter Try.func18, Try.ntmps18
  go_wp2_with fail
  refine (regionError_any _ _ _ _ _).mono ?_
  rintro e w1 ⟨rfl, hb⟩
  go_wp2_with fail
  go_ret2
  exact ⟨rfl, below_box hb⟩

set_option maxRecDepth 100000 in
theorem tilesr_range (x y a b s : Int) (w : World) (h : regE x y a b = 0) (hs : sideB s = false) : Calls Try.prog 18 #[reg x y a b, .int .i64 s] w fun e w' => e = .returned (.tuple #[.slice none 0 0, .int .i64 3]) ∧ Below w.heap.size w w' := by
  have z : (regE x y a b != 0) = false := by simp [h]
  clear h
  by_cases hs1 : s < 1
  case' neg => have hs2 : 256 < s := by rcases sideB_false.1 hs with h | h; exact absurd h hs1; exact h
  all_goals
    go_enter Try.func18, Try.ntmps18
    go_wp2_with fail
    refine (regionError_any _ _ _ _ _).mono ?_
    rintro e w1 ⟨rfl, hb⟩
    go_wp2_with fail
    go_ret2
    exact ⟨rfl, below_box hb⟩

set_option maxRecDepth 100000 in
set_option maxHeartbeats 4000000 in
theorem tilesr_ok (x y a b s : Int) (nc nr : Nat) (w : World) (h : regE x y a b = 0) (hs : sideB s = true) (HT0 : TileIn x y a b s (x / s * s) (y / s * s) nc nr) :
    Calls Try.prog 18 #[reg x y a b, .int .i64 s] w (Tiled w x y a b s (x / s * s) (y / s * s) nc (nc * nr)) := by
  have z : (regE x y a b != 0) = false := by simp [h]
  obtain ⟨a1, a2, b1, b2, ab, x1, x2, y1, y2⟩ := regE_zero h
  have HSM := hid (small_of h)
  obtain ⟨s1, s2⟩ := sideB_true.1 hs
  obtain ⟨i0, hi0⟩ : ∃ i0, x / s = i0 := ⟨_, rfl⟩
  obtain ⟨j0, hj0⟩ : ∃ j0, y / s = j0 := ⟨_, rfl⟩
  obtain ⟨X0, hX0⟩ : ∃ X0, i0 * s = X0 := ⟨_, rfl⟩
  obtain ⟨Y0, hY0⟩ : ∃ Y0, j0 * s = Y0 := ⟨_, rfl⟩
  rw [hi0, hj0, hX0, hY0] at HT0 ⊢
  have HT := hid HT0
  have X1 := HT0.cx.lo
  have X2 := HT0.cx.hi
  have Y1 := HT0.cy.lo
  have Y2 := HT0.cy.hi
  have HN : RowKit.Hid (0 < nc ∧ 0 < nr ∧ nc ≤ 257 ∧ nr ≤ 257 ∧ nc * nr ≤ 66049) := ⟨HT0.cx.n1, HT0.cy.n1, HT0.cx.n2, HT0.cy.n2, HT0.many⟩
  clear h HT0
  obtain ⟨f0, hfi, hz0, hz1, hz2⟩ := info_parts info_reg
  go_enter Try.func18, Try.ntmps18
  go_wp2_with fail
  obtain ⟨J1, J2⟩ := div_bd y s s1 (by omega) (by omega)
  obtain ⟨I1, I2⟩ := div_bd x s s1 (by omega) (by omega)
  rw [hj0] at J1 J2
  rw [hi0] at I1 I2
  have nr1 := HN.out.2.2.2.1
  have nc1 := HN.out.2.2.1
  refine (regionError_any _ _ _ _ _).mono ?_
  rintro e w1 ⟨rfl, hb⟩
  have hp : Blk w1 w.heap.size 23 #[.int .i64 x, .int .i64 y, .int .i64 a, .int .i64 b] := (Blk.new_at _ _ _ rfl).below hb (by simp)
  have HBE1 : RowKit.Hid (Below w.heap.size w w1) := below_box hb
  have c0 := hp.cell 0
  have c1 := hp.cell 1
  have c2 := hp.cell 2
  have c3 := hp.cell 3
  simp at c0 c1 c2 c3
  have HP := hid hp
  have hlt := hp.lt
  clear hb hp
  go_wp2_with fail
  refine (quotient_any _ _ _ s1 s2 (by omega) (by omega)).mono ?_
  rintro e w3 ⟨rfl, hb3⟩
  have HB0 : RowKit.Hid (TRel w x y a b s X0 Y0 nc 0 (.slice none 0 0) w3) := ⟨World.ownsRow_nil _ _ _ _, HP.out.below hb3 HP.out.lt, below_to HBE1.out hb3⟩
  clear hb3 c0 c1 c2 c3 HP HBE1
  have HY0 := hid hY0
  have HX0 := hid hX0
  clear hX0 hY0
  go_wp2_with fail
  go_loopw [7, 10] (fun v i wr => ∃ (j : Nat) (J : Int), j ≤ nr ∧ i = .int .i64 J ∧ RowKit.Hid (J = j0 + j) ∧ TRel w x y a b s X0 Y0 nc (nc * j) v wr) (fun _ i _ => (j0 + 300 - intOf i).toNat)
  case atStart => exact ⟨0, j0, Nat.zero_le _, by simp [*], hid (by simp), HB0.out⟩
  case round =>
    clear HB0
    obtain ⟨j, J, hj, rfl, hJ, hrel⟩ := hrel
    have HL := hid hrel
    have c0 := hrel.2.1.cell 0
    have c1 := hrel.2.1.cell 1
    have c2 := hrel.2.1.cell 2
    have c3 := hrel.2.1.cell 3
    simp at c0 c1 c2 c3
    clear hrel
    obtain ⟨V, hV0⟩ : ∃ V, J * s = V := ⟨_, rfl⟩
    have hV : RowKit.Hid (V = Y0 + s * j) := hid (by rw [← hV0, hJ.out, Int.add_mul, HY0.out, Int.mul_comm (j : Int) s])
    have kV : V < y + b ↔ j < nr := by rw [hV.out]; exact HT.out.cy.lt j
    have pV : Y0 ≤ V := by rw [hV.out]; exact HT.out.cy.pos j
    have vJ1 : j0 ≤ J := by have := hJ.out; omega
    have vJ2 : J ≤ j0 + 257 := by have := hJ.out; omega
    have qV : V < y + b + 256 := by
      rcases Nat.lt_or_ge j nr with h | h
      · have := kV.2 h; omega
      · have hjn : j = nr := by omega
        have n1 := HN.out.2.1
        have l := (HT.out.cy.lt (nr - 1)).2 (by omega)
        have e := Cols.next (X0 := Y0) (s := s) (nr - 1)
        rw [show nr - 1 + 1 = nr by omega] at e
        have := hV.out
        rw [hjn] at this
        omega
    by_cases hjq : j < nr
    · have lV := kV.2 hjq
      clear kV
      go_wp2_with fail
      refine (quotient_any _ _ _ s1 s2 (by omega) (by omega)).mono ?_
      rintro e w6 ⟨rfl, hb6⟩
      have HL1 := hid (HL.out.below hb6)
      clear HL hb6 c0 c1 c2 c3
      go_wp2_with fail
      go_loopw [7, 13] (fun v i wr => ∃ (i1 : Nat) (I : Int), i1 ≤ nc ∧ i = .int .i64 I ∧ RowKit.Hid (I = i0 + i1) ∧ TRel w x y a b s X0 Y0 nc (nc * j + i1) v wr) (fun _ i _ => (i0 + 300 - intOf i).toNat)
      case atStart => exact ⟨0, i0, Nat.zero_le _, by simp [*], hid (by simp), HL1.out⟩
      case round =>
        clear HL1
        obtain ⟨i1, I, hi1, rfl, hI, hrel⟩ := hrel
        have HL := hid hrel
        have c0 := hrel.2.1.cell 0
        have c1 := hrel.2.1.cell 1
        have c2 := hrel.2.1.cell 2
        have c3 := hrel.2.1.cell 3
        simp at c0 c1 c2 c3
        clear hrel
        obtain ⟨U, hU0⟩ : ∃ U, I * s = U := ⟨_, rfl⟩
        have hU : RowKit.Hid (U = X0 + s * i1) := hid (by rw [← hU0, hI.out, Int.add_mul, HX0.out, Int.mul_comm (i1 : Int) s])
        have kU : U < x + a ↔ i1 < nc := by rw [hU.out]; exact HT.out.cx.lt i1
        have pU : X0 ≤ U := by rw [hU.out]; exact HT.out.cx.pos i1
        have vI1 : i0 ≤ I := by have := hI.out; omega
        have vI2 : I ≤ i0 + 257 := by have := hI.out; omega
        have qU : U < x + a + 256 := by
          rcases Nat.lt_or_ge i1 nc with h | h
          · have := kU.2 h; omega
          · have hin : i1 = nc := by omega
            have n1 := HN.out.1
            have l := (HT.out.cx.lt (nc - 1)).2 (by omega)
            have e := Cols.next (X0 := X0) (s := s) (nc - 1)
            rw [show nc - 1 + 1 = nc by omega] at e
            have := hU.out
            rw [hin] at this
            omega
        by_cases hip : i1 < nc
        · have lU := kU.2 hip
          have aU : x < U + s := by rw [hU.out]; exact HT.out.cx.ahead i1
          have aV : y < V + s := by rw [hV.out]; exact HT.out.cy.ahead j
          clear kU
          have HC : RowKit.Hid (∀ w, Calls Try.prog 21 #[reg x y a b, reg U V s s] w (Tup w (reg (max x U) (max y V) (min (x + a) (U + s) - max x U) (min (y + b) (V + s) - max y V)) true)) :=
            hid fun w => commonr_yes x y a b U V s s HSM.out ⟨by omega, by omega, by omega, by omega, by omega, by omega, by omega, by omega⟩ (by omega) (by omega) w
          have hE : RowKit.Hid (tileL x y a b s X0 Y0 nc (nc * j + i1) ++ [.int .i64 (max x U), .int .i64 (max y V), .int .i64 (min (x + a) (U + s) - max x U), .int .i64 (min (y + b) (V + s) - max y V)] = tileL x y a b s X0 Y0 nc (nc * j + i1 + 1)) := by
            rw [hU.out, hV.out]
            refine hid ?_
            show _ = _ ++ _
            simp only [tX, tY, tW, tH, mod_of hip, div_of hip, tl, tw]
          obtain ⟨t, ht⟩ : ∃ t, t = nc * j + i1 := ⟨_, rfl⟩
          have hlt2 := idx_lt hip hjq
          rw [← ht] at HL hE hlt2
          have htm : t < 66049 := by have := HN.out.2.2.2.2; omega
          have HTT := hid ht
          obtain ⟨M1, hM1⟩ : ∃ M, max x U = M := ⟨_, rfl⟩
          obtain ⟨M2, hM2⟩ : ∃ M, max y V = M := ⟨_, rfl⟩
          obtain ⟨M3, hM3⟩ : ∃ M, min (x + a) (U + s) - M1 = M := ⟨_, rfl⟩
          obtain ⟨M4, hM4⟩ : ∃ M, min (y + b) (V + s) - M2 = M := ⟨_, rfl⟩
          rw [hM1, hM2, hM3, hM4] at HC hE
          clear hM1 hM2 hM3 hM4 hlt2 ht
          go_wp2_with fail
          refine (HC.out _).mono ?_
          rintro e w4 ⟨rfl, hb4⟩
          have HL4 := hid ((HL.out.below hb4).below ((Below.refl _ _).alloc (Nat.le_refl _) (.cells #[.int .i64 M1, .int .i64 M2, .int .i64 M3, .int .i64 M4] 23)))
          have hown := HL4.out.1
          have hsz := HL4.out.size
          clear hb4 HC c0 c1 c2 c3
          go_wp2_with (at_builtin; refine wpList_append_own _ rfl _ _ 29 rfl (w.heap.size + 1) 23 f0 zreg 4 32 Try.underlying29 hfi hz0 hz1 hz2 rfl (by decide) _ _ _ rfl (hown.alloc _) ⟨w4.heap.size + 1, 0, none⟩ 1 1 [.int .i64 M1, .int .i64 M2, .int .i64 M3, .int .i64 M4] rfl rfl ?c1 ?c2 ?c3 ?c4 ?c5 ?_)
          case c1 =>
            intro j u hj
            match j, hj with
            | 0, hj => simp at hj; subst hj; simp [Addr.add]
            | 1, hj => simp at hj; subst hj; simp [Addr.add]
            | 2, hj => simp at hj; subst hj; simp [Addr.add]
            | 3, hj => simp at hj; subst hj; simp [Addr.add]
          case c2 => intro u hu; simp at hu; rcases hu with rfl | rfl | rfl | rfl <;> rfl
          case c3 => unfold maxLen; omega
          case c4 => omega
          case c5 => simp at hsz ⊢; omega
          intro v' w5 hown' hgrow _
          have R := HL4.out.step (by rw [← hE.out]; exact hown') hgrow
          clear hown' hgrow hown
          go_wp2_with fail
          go_roundw
          case rel => exact ⟨i1 + 1, I + 1, by omega, by go_num, hid (by have := hI.out; omega), by rw [← Nat.add_assoc, ← HTT.out]; exact R⟩
          case measure => simp [intOf]; omega
        · have hi5 : i1 = nc := by omega
          subst hi5
          clear vI1 vI2
          go_wp2_with fail
          go_roundw
          case rel => exact ⟨j + 1, J + 1, by omega, by go_num, hid (by have := hJ.out; omega), by rw [Nat.mul_succ]; exact HL.out⟩
          case measure => simp [intOf]; omega
    · have hj5 : j = nr := by omega
      subst hj5
      go_wp2_with fail
      go_ret2
      exact Tiled.of (Nat.mul_pos HN.out.1 HN.out.2.1) HL.out
end Go.Proofs.Ytoahfnfmhgeooaa
