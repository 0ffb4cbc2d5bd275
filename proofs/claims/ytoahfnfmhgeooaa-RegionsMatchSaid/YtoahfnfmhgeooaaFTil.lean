/-
  Tiles, in the program and in the reference.
-/
import Derived.Test.YtoahfnfmhgeooaaFGrow
import Derived.Test.YtoahfnfmhgeooaaFTilP
import Derived.Test.YtoahfnfmhgeooaaFBuild
namespace Go.Proofs.Ytoahfnfmhgeooaa
open Go.RowKit

theorem info_reg : (Try.prog.info? 23).map (fun i => (i.zero, i.size, i.bytes)) = some (some zreg, 4, 32) := by kernel_rfl

/-- The relation of the loops over tiles. -/
def TRel (w : World) (x y a b s X0 Y0 : Int) (nc k : Nat) (v : Value) (wr : World) : Prop :=
  wr.ownsRow (w.heap.size + 1) 23 4 v k (tileL x y a b s X0 Y0 nc k) ∧ Blk wr w.heap.size 23 #[.int .i64 x, .int .i64 y, .int .i64 a, .int .i64 b] ∧ Below w.heap.size w wr
section
variable {w : World} {x y a b s X0 Y0 : Int} {nc k : Nat} {v v' : Value} {wr w1 : World}
theorem TRel.size (h : TRel w x y a b s X0 Y0 nc k v wr) : w.heap.size + 1 ≤ wr.heap.size := h.2.1.lt
theorem TRel.below (h : TRel w x y a b s X0 Y0 nc k v wr) (hb : Below wr.heap.size wr w1) : TRel w x y a b s X0 Y0 nc k v w1 :=
  ⟨own_below h.1 hb, h.2.1.below hb h.2.1.lt, below_to h.2.2 hb⟩
theorem TRel.step {o : Obj} (h : TRel w x y a b s X0 Y0 nc k v wr) (ho : w1.ownsRow (w.heap.size + 1) 23 4 v' (k + 1) (tileL x y a b s X0 Y0 nc (k + 1))) (hg : (wr.alloc o).grownBy w1 v.ownBlock) : TRel w x y a b s X0 Y0 nc (k + 1) v' w1 :=
  ⟨ho, blk_grown h.2.1 (by omega) h.1 hg, below_grown h.2.2 (by have := h.size; omega) (by omega) h.1 hg⟩
end

/-- Tiles and no error. -/
def Tiled (w : World) (x y a b s X0 Y0 : Int) (nc n : Nat) (e : Ending) (w' : World) : Prop :=
  ∃ g c, e = .returned (.tuple #[.slice (some ⟨g, 0, none⟩) n c, .int .i64 0]) ∧ n ≤ c ∧ c ≤ maxLen ∧ w.heap.size ≤ g ∧ g < w'.heap.size ∧
    (∀ j, j < 4 * n → w'.cell? ⟨g, j, none⟩ = (tileL x y a b s X0 Y0 nc n)[j]?) ∧ Below w.heap.size w w'
theorem Tiled.of {w wr : World} {x y a b s X0 Y0 : Int} {nc n : Nat} {v : Value} (hn : 0 < n) (h : TRel w x y a b s X0 Y0 nc n v wr) : Tiled w x y a b s X0 Y0 nc n (.returned (.tuple #[v, .int .i64 0])) wr := by
  obtain ⟨h1, h2, h3⟩ := h
  rcases h1.2 with ⟨rfl, hx⟩ | ⟨g, cap, cur, rfl, hbg, hg, hnc, hcm, hcs, htake⟩
  · exfalso
    have := tileL_length (x := x) (y := y) (a := a) (b := b) (s := s) (X0 := X0) (Y0 := Y0) (nc := nc) n
    rw [hx] at this
    simp at this
    omega
  · exact ⟨g, cap, rfl, hnc, hcm, by omega, (Array.getElem?_eq_some_iff.1 hg).1, fun j hj => h1.cellAt j (by omega), h3⟩

set_option maxRecDepth 100000 in
set_option maxHeartbeats 4000000 in
theorem tilesp_ok (x y a b s : Int) (nc nr : Nat) (w : World) (h : regE x y a b = 0) (hs : sideB s = true) (HT0 : TileIn x y a b s (x / s * s) (y / s * s) nc nr) :
    Calls Try.prog 17 #[reg x y a b, .int .i64 s] w (Tiled w x y a b s (x / s * s) (y / s * s) nc (nc * nr)) := by
  have z : (regE x y a b != 0) = false := by simp [h]
  obtain ⟨a1, a2, b1, b2, ab, x1, x2, y1, y2⟩ := regE_zero h
  have HSM := hid (small_of h)
  obtain ⟨s1, s2⟩ := sideB_true.1 hs
  obtain ⟨i0, hi0⟩ : ∃ i0, x / s = i0 := ⟨_, rfl⟩
  obtain ⟨j0, hj0⟩ : ∃ j0, y / s = j0 := ⟨_, rfl⟩
  obtain ⟨X0, hX0⟩ : ∃ X0, i0 * s = X0 := ⟨_, rfl⟩
  obtain ⟨Y0, hY0⟩ : ∃ Y0, j0 * s = Y0 := ⟨_, rfl⟩
  rw [hi0, hj0, hX0, hY0] at HT0 ⊢
  have HT := hid HT0
  have X1 := HT0.cx.lo
  have X2 := HT0.cx.hi
  have Y1 := HT0.cy.lo
  have Y2 := HT0.cy.hi
  have HN : RowKit.Hid (0 < nc ∧ 0 < nr ∧ nc ≤ 257 ∧ nr ≤ 257 ∧ nc * nr ≤ 66049) := ⟨HT0.cx.n1, HT0.cy.n1, HT0.cx.n2, HT0.cy.n2, HT0.many⟩
  clear h HT0
  obtain ⟨f0, hfi, hz0, hz1, hz2⟩ := info_parts info_reg
  go_enter Try.func17, Try.ntmps17
  go_wp2_with fail
  refine (checkRegion_any _ _ _ _ _).mono ?_
  rintro e w1 ⟨rfl, hb⟩
  have hp : Blk w1 w.heap.size 23 #[.int .i64 x, .int .i64 y, .int .i64 a, .int .i64 b] := (Blk.new_at _ _ _ rfl).below hb (by simp)
  have HBE1 : RowKit.Hid (Below w.heap.size w w1) := below_box hb
  have c0 := hp.cell 0
  have c1 := hp.cell 1
  have c2 := hp.cell 2
  have c3 := hp.cell 3
  simp at c0 c1 c2 c3
  have HP := hid hp
  have hlt := hp.lt
  clear hb hp
  go_wp2_with fail
  refine (isSide_any _ _).mono ?_
  rintro e w' ⟨rfl, rfl⟩
  go_wp2_with fail
  refine (divide_any _ _ _ s1 s2 (by omega) (by omega)).mono ?_
  rintro e w2 ⟨rfl, hb2⟩
  have hp2 := HP.out.below hb2 hlt
  have HBE2 := hid (below_to HBE1.out hb2)
  have HP2 := hid hp2
  have d0 := hp2.cell 0
  have d1 := hp2.cell 1
  have d2 := hp2.cell 2
  have d3 := hp2.cell 3
  simp at d0 d1 d2 d3
  clear hp2 hb2 c0 c1 c2 c3
  go_wp2_with fail
  refine (divide_any _ _ _ s1 s2 (by omega) (by omega)).mono ?_
  rintro e w3 ⟨rfl, hb3⟩
  have HB0 : RowKit.Hid (TRel w x y a b s X0 Y0 nc 0 (.slice none 0 0) w3) := ⟨World.ownsRow_nil _ _ _ _, HP2.out.below hb3 HP2.out.lt, below_to HBE2.out hb3⟩
  clear hb3 d0 d1 d2 d3 HP HP2 HBE1 HBE2
  go_wp2_with fail
  go_loopw [11, 12] (fun v i wr => ∃ (j : Nat) (V : Int), j ≤ nr ∧ i = .int .i64 V ∧ RowKit.Hid (V = Y0 + s * j) ∧ TRel w x y a b s X0 Y0 nc (nc * j) v wr) (fun _ i _ => (y + b + 256 - intOf i).toNat)
  case atStart => exact ⟨0, Y0, Nat.zero_le _, rfl, hid (by simp), HB0.out⟩
  case round =>
    clear HB0
    obtain ⟨j, V, hj, rfl, hV, hrel⟩ := hrel
    have HL := hid hrel
    have c0 := hrel.2.1.cell 0
    have c1 := hrel.2.1.cell 1
    have c2 := hrel.2.1.cell 2
    have c3 := hrel.2.1.cell 3
    simp at c0 c1 c2 c3
    clear hrel
    have kV : V < y + b ↔ j < nr := by rw [hV.out]; exact HT.out.cy.lt j
    have pV : Y0 ≤ V := by rw [hV.out]; exact HT.out.cy.pos j
    by_cases hjq : j < nr
    · have lV := kV.2 hjq
      clear kV
      go_wp2_with fail
      go_loopw [11, 13] (fun v i wr => ∃ (i1 : Nat) (U : Int), i1 ≤ nc ∧ i = .int .i64 U ∧ RowKit.Hid (U = X0 + s * i1) ∧ TRel w x y a b s X0 Y0 nc (nc * j + i1) v wr) (fun _ i _ => (x + a + 256 - intOf i).toNat)
      case atStart => exact ⟨0, X0, Nat.zero_le _, rfl, hid (by simp), HL.out⟩
      case round =>
        clear HL c0 c1 c2 c3
        obtain ⟨i1, U, hi1, rfl, hU, hrel⟩ := hrel
        have HL := hid hrel
        have c0 := hrel.2.1.cell 0
        have c1 := hrel.2.1.cell 1
        have c2 := hrel.2.1.cell 2
        have c3 := hrel.2.1.cell 3
        simp at c0 c1 c2 c3
        clear hrel
        have kU : U < x + a ↔ i1 < nc := by rw [hU.out]; exact HT.out.cx.lt i1
        have pU : X0 ≤ U := by rw [hU.out]; exact HT.out.cx.pos i1
        by_cases hip : i1 < nc
        · have lU := kU.2 hip
          have aU : x < U + s := by rw [hU.out]; exact HT.out.cx.ahead i1
          have aV : y < V + s := by rw [hV.out]; exact HT.out.cy.ahead j
          clear kU
          have HC : RowKit.Hid (∀ w, Calls Try.prog 20 #[reg x y a b, reg U V s s] w (Tup w (reg (max x U) (max y V) (min (x + a) (U + s) - max x U) (min (y + b) (V + s) - max y V)) true)) :=
            hid fun w => common_yes x y a b U V s s HSM.out ⟨by omega, by omega, by omega, by omega, by omega, by omega, by omega, by omega⟩ (by omega) (by omega) w
          have hE : RowKit.Hid (tileL x y a b s X0 Y0 nc (nc * j + i1) ++ [.int .i64 (max x U), .int .i64 (max y V), .int .i64 (min (x + a) (U + s) - max x U), .int .i64 (min (y + b) (V + s) - max y V)] = tileL x y a b s X0 Y0 nc (nc * j + i1 + 1)) := by
            rw [hU.out, hV.out]
            refine hid ?_
            show _ = _ ++ _
            simp only [tX, tY, tW, tH, mod_of hip, div_of hip, tl, tw]
          obtain ⟨t, ht⟩ : ∃ t, t = nc * j + i1 := ⟨_, rfl⟩
          have hlt2 := idx_lt hip hjq
          rw [← ht] at HL hE hlt2
          have htm : t < 66049 := by have := HN.out.2.2.2.2; omega
          have HTT := hid ht
          obtain ⟨M1, hM1⟩ : ∃ M, max x U = M := ⟨_, rfl⟩
          obtain ⟨M2, hM2⟩ : ∃ M, max y V = M := ⟨_, rfl⟩
          obtain ⟨M3, hM3⟩ : ∃ M, min (x + a) (U + s) - M1 = M := ⟨_, rfl⟩
          obtain ⟨M4, hM4⟩ : ∃ M, min (y + b) (V + s) - M2 = M := ⟨_, rfl⟩
          rw [hM1, hM2, hM3, hM4] at HC hE
          clear hM1 hM2 hM3 hM4 hlt2 ht
          go_wp2_with fail
          refine (HC.out _).mono ?_
          rintro e w4 ⟨rfl, hb4⟩
          have HL4 := hid ((HL.out.below hb4).below ((Below.refl _ _).alloc (Nat.le_refl _) (.cells #[.int .i64 M1, .int .i64 M2, .int .i64 M3, .int .i64 M4] 23)))
          have hown := HL4.out.1
          have hsz := HL4.out.size
          clear hb4 HC c0 c1 c2 c3
          go_wp2_with (at_builtin; refine wpList_append_own _ rfl _ _ 29 rfl (w.heap.size + 1) 23 f0 zreg 4 32 Try.underlying29 hfi hz0 hz1 hz2 rfl (by decide) _ _ _ rfl (hown.alloc _) ⟨w4.heap.size + 1, 0, none⟩ 1 1 [.int .i64 M1, .int .i64 M2, .int .i64 M3, .int .i64 M4] rfl rfl ?c1 ?c2 ?c3 ?c4 ?c5 ?_)
          case c1 =>
            intro j u hj
            match j, hj with
            | 0, hj => simp at hj; subst hj; simp [Addr.add]
            | 1, hj => simp at hj; subst hj; simp [Addr.add]
            | 2, hj => simp at hj; subst hj; simp [Addr.add]
            | 3, hj => simp at hj; subst hj; simp [Addr.add]
          case c2 => intro u hu; simp at hu; rcases hu with rfl | rfl | rfl | rfl <;> rfl
          case c3 => unfold maxLen; omega
          case c4 => omega
          case c5 => simp at hsz ⊢; omega
          intro v' w5 hown' hgrow _
          have R := HL4.out.step (by rw [← hE.out]; exact hown') hgrow
          clear hown' hgrow hown
          go_wp2_with fail
          go_roundw
          case rel => exact ⟨i1 + 1, U + s, by omega, by go_num, hid (by rw [hU.out, Cols.next]), by rw [← Nat.add_assoc, ← HTT.out]; exact R⟩
          case measure => simp [intOf]; omega
        · have hi5 : i1 = nc := by omega
          subst hi5
          go_wp2_with fail
          go_roundw
          case rel => exact ⟨j + 1, V + s, by omega, by go_num, hid (by rw [hV.out, Cols.next]), by rw [Nat.mul_succ]; exact HL.out⟩
          case measure => simp [intOf]; omega
    · have hj5 : j = nr := by omega
      subst hj5
      go_wp2_with fail
      go_ret2
      exact Tiled.of (Nat.mul_pos HN.out.1 HN.out.2.1) HL.out
end Go.Proofs.Ytoahfnfmhgeooaa
