/-
  Cubes: the law of grey cubes.
-/
import Derived.Test.YtmliblmkkcidkaaKTop
import Derived.Deep.AppendLies
namespace Go.Proofs.Ytmliblmkkcidkaa
open Go.RowKit Go.Shelf
attribute [local go_sem] run_store_float

/-- The cells of a row of singles. -/
def rowL (G : Nat → Nat) (k : Nat) : List Value := (List.range k).map fun j => .float .f32 (G j)
theorem rowL_length (G : Nat → Nat) (k : Nat) : (rowL G k).length = k := by simp [rowL]
theorem rowL_succ (G : Nat → Nat) (k : Nat) : rowL G (k + 1) = rowL G k ++ [.float .f32 (G k)] := by simp [rowL, List.range_succ]
theorem rowL_get (G : Nat → Nat) (k i : Nat) (h : i < k) : (rowL G k)[i]? = some (.float .f32 (G i)) := by simp [rowL, h]
theorem rowL_3 (G : Nat → Nat) (k : Nat) : rowL G (k + 3) = rowL G k ++ [.float .f32 (G k), .float .f32 (G (k + 1)), .float .f32 (G (k + 2))] := by
  rw [show k + 3 = k + 1 + 1 + 1 from rfl, rowL_succ, rowL_succ, rowL_succ]; simp
theorem Blk.grown {w w' : World} {g : Nat} {t : TypeId} {cs : Array Value} {row : Option Nat} (h : Blk w g t cs) (hb : w.grownBy w' row) (hg : some g ≠ row) : Blk w' g t cs := (hb.block g h.lt hg).trans h
theorem below_grown {B base : Nat} {a wr w1 : World} {v : Value} {e : TypeId} {size n : Nat} {xs : List Value} {o : Obj} (hb : Below B a wr) (hB : B ≤ wr.heap.size) (hbase : B ≤ base) (hown : wr.ownsRow base e size v n xs) (hg : (wr.alloc o).grownBy w1 v.ownBlock) : Below B a w1 :=
  (hb.alloc hB o).grown hg (by simp; omega) fun k hk => Nat.le_trans hbase (hown.lt k hk).1
theorem blk_grown {base g : Nat} {wr w1 : World} {v : Value} {e t : TypeId} {cs : Array Value} {size n : Nat} {xs : List Value} {o : Obj} (h : Blk wr g t cs) (hgb : g < base) (hown : wr.ownsRow base e size v n xs) (hg : (wr.alloc o).grownBy w1 v.ownBlock) : Blk w1 g t cs :=
  (h.alloc o).grown hg fun e => by have := (hown.lt g e.symm).1; omega
/-- What a row that is owned reads as. -/
theorem src_own {w : World} {base : Nat} {v : Value} {m : Nat} {G : Nat → Nat} (hm : 0 < m) (h : w.ownsRow base 23 1 v m (rowL G m)) :
    ∃ b c, v = .slice (some ⟨b, 0, none⟩) m c ∧ m ≤ c ∧ base ≤ b ∧ Src w (some ⟨b, 0, none⟩) m G := by
  rcases h.2 with ⟨rfl, hx⟩ | ⟨g, cap, cur, rfl, hbg, hg, hnc, hcm, hcs, htake⟩
  · exfalso
    have := rowL_length G m
    rw [hx] at this
    simp at this
    omega
  · refine ⟨g, cap, rfl, hnc, hbg, Src.of_rd (fun i hi => ?_) (Array.getElem?_eq_some_iff.1 hg).1⟩
    rw [Nat.zero_add, h.cellAt i (by omega), rowL_get G m i hi]

/-- The relation of the loop that lays greys. -/
structure GRel (S : Int) (G : Nat → Nat) (w : World) (t : Nat) (v : Value) (wr : World) : Prop where
  own : wr.ownsRow (w.heap.size + 1) 23 1 v t (rowL G t)
  box : Blk wr w.heap.size 26 #[.int .i64 S, .float .f32 0, .float .f32 1065353216, v]
  be : Below w.heap.size w wr
theorem GRel.step {S : Int} {G : Nat → Nat} {w : World} {t g cap : Nat} {v : Value} {wr w1 : World} {o : Obj} (h : GRel S G w t v wr)
    (ho : w1.ownsRow (w.heap.size + 1) 23 1 (.slice (some ⟨g, 0, none⟩) (t + 3) cap) (t + 3) (rowL G t ++ [.float .f32 (G t), .float .f32 (G (t + 1)), .float .f32 (G (t + 2))])) (hg : (wr.alloc o).grownBy w1 v.ownBlock) :
    GRel S G w (t + 3) (.slice (some ⟨g, 0, none⟩) (t + 3) cap) (w1.setCell ⟨w.heap.size, 3, none⟩ (.slice (some ⟨g, 0, none⟩) (t + 3) cap)) := by
  have hs := h.box.lt
  refine ⟨ownsRow_setCell_below (by rw [rowL_3]; exact ho) (by simp) _, ?_, (below_grown h.be (by omega) (by omega) h.own hg).setCell (by simp) _⟩
  have := (blk_grown h.box (by omega) h.own hg).set_ 3 (.slice (some ⟨g, 0, none⟩) (t + 3) cap)
  simpa using this

theorem one_cl : cl 1065353216 = 1065353216 := by decide +kernel
theorem landed_any (w : World) : Calls Try.prog 12 #[] w fun e w' => e = .returned (.bool true) ∧ w = w' := by
  have h1 := one_cl
  go_enter Try.func12, Try.ntmps12
  go_wp2_with (go_at_call 16; refine (bits_any _ _).mono ?_; rintro e w' ⟨rfl, rfl⟩)
  go_ret
  exact ⟨rfl, rfl⟩

/-- Greys by entries. -/
def greyF (F : Nat → Nat) (t : Nat) : Nat := F (t / 3)
theorem grey_same (F : Nat → Nat) (s i j k m : Nat) (hm : m < 3) : greyF F (eIx s i j k + m) = greyF F (eIx s i j k) := by
  unfold greyF eIx
  congr 1
  omega
theorem tetV_congr {e : Nat → Nat → Nat} {s t u i j : Nat} (h : ∀ m, e m i = e m j) : tetV e s t u i = tetV e s t u j := by
  unfold tetV; rw [h 0, h 1, h 2, h 3]
theorem lookC_lt {T p : Nat → Nat} {m : Nat} (hm : m < 3) : lookC T p m = if nan3 p = true then 2143289344 else T m := by unfold lookC; rw [if_pos hm]
theorem tet_grey (F p : Nat → Nat) (s L H m : Nat) (hm : m < 3) : tetP s L H (greyF F) p m = tetP s L H (greyF F) p 0 := by
  have h : ∀ a o r, corE s (greyF F) a o r m = corE s (greyF F) a o r 0 := fun a o r => by unfold corE; rw [grey_same _ _ _ _ _ _ hm, grey_same _ _ _ _ _ _ (by decide)]
  have h2 : ∀ a x, tetC s (greyF F) a x m = tetC s (greyF F) a x 0 := fun a x => tetV_congr fun r => h _ _ r
  unfold tetP
  rw [lookC_lt hm, lookC_lt (by decide), h2]
theorem lin_grey (F p : Nat → Nat) (s L H m : Nat) (hm : m < 3) : linP s L H (greyF F) p m = linP s L H (greyF F) p 0 := by
  have h : ∀ a r, linE s (greyF F) a r m = linE s (greyF F) a r 0 := fun a r => by unfold linE; rw [grey_same _ _ _ _ _ _ hm, grey_same _ _ _ _ _ _ (by decide)]
  have h2 : ∀ a x, linC s (greyF F) a x m = linC s (greyF F) a x 0 := fun a x => by simp only [linC, stg, h]
  unfold linP
  rw [lookC_lt hm, lookC_lt (by decide), h2]

theorem ok_grey {S : Int} {m : Nat} (h1 : 2 ≤ S) (h2 : S ≤ 5) (hm : S * S * S = (m : Int)) : CubOk S 0 1065353216 (3 * m) :=
  ⟨h1, by omega, by rw [Int.mul_assoc 3, Int.mul_assoc 3, hm]; simp, by decide +kernel, by decide +kernel, by decide +kernel, by decide +kernel, by decide +kernel⟩

theorem cube_s {S : Int} (h1 : 2 ≤ S) (h2 : S ≤ 5) : 4 ≤ S * S ∧ S * S ≤ 25 ∧ 8 ≤ S * S * S ∧ S * S * S ≤ 125 := by
  have : S = 2 ∨ S = 3 ∨ S = 4 ∨ S = 5 := by omega
  rcases this with rfl | rfl | rfl | rfl <;> decide

set_option maxRecDepth 100000 in
set_option maxHeartbeats 4000000 in
theorem greys_any (S : Int) (A : Option Addr) (n c v : Nat) (F : Nat → Nat) (w : World) (hnc : n ≤ c) (hF : Src w A n F) :
    Calls Try.prog 3 #[.int .i64 S, .slice A n c, .float .f32 v] w fun e w' => e = .returned (.bool true) ∧ Below w.heap.size w w' := by
  by_cases h1 : S < 2
  · clear hF
    go_enter Try.func3, Try.ntmps3
    go_wp2_with (go_at_call 12; refine (landed_any _).mono ?_; rintro e w' ⟨rfl, rfl⟩)
    go_ret
    exact ⟨rfl, Below.refl _ _⟩
  by_cases h2 : 5 < S
  · clear hF
    go_enter Try.func3, Try.ntmps3
    go_wp2_with (go_at_call 12; refine (landed_any _).mono ?_; rintro e w' ⟨rfl, rfl⟩)
    go_ret
    exact ⟨rfl, Below.refl _ _⟩
  have s1 : 2 ≤ S := by omega
  have s2 : S ≤ 5 := by omega
  obtain ⟨p1, p2, p3, p4⟩ := cube_s s1 s2
  obtain ⟨m, hm⟩ : ∃ m : Nat, S * S * S = (m : Int) := ⟨(S * S * S).toNat, by omega⟩
  have hok := ok_grey s1 s2 hm
  rw [hm] at p3 p4
  by_cases h3 : n < m
  · clear hF
    have h3' : (n : Int) < (m : Int) := by omega
    have b1 : (m : Int) ≤ 125 := p4
    go_enter Try.func3, Try.ntmps3
    go_wp2_with (go_at_call 12; refine (landed_any _).mono ?_; rintro e w' ⟨rfl, rfl⟩)
    go_ret
    exact ⟨rfl, Below.refl _ _⟩
  obtain ⟨b, off, rfl, hb, hR⟩ := hF (by omega)
  obtain ⟨s, rfl⟩ : ∃ s : Nat, S = (s : Int) := ⟨S.toNat, by omega⟩
  have HR := hid hR
  have HOK := hid hok
  have g1 : ¬ (n : Int) < (m : Int) := by omega
  have g1' : decide (n < m) = false := by simpa using h3
  have g2 : (m : Int) ≤ (c : Int) := by omega
  have g3 : ¬ c = 0 := by omega
  have HM : RowKit.Hid (m ≤ n ∧ 8 ≤ m ∧ m ≤ 125) := hid (by omega)
  obtain ⟨i0, hi, hz0, hz1, hz2⟩ := info_parts info_f32
  clear hF hR hok h3
  go_enter Try.func3, Try.ntmps3
  go_wp2_with (go_at_call 12; refine (landed_any _).mono ?_; rintro e w' ⟨rfl, rfl⟩)
  go_loopw [42] (fun i wr => ∃ (k : Nat) (u : Value), k ≤ m ∧ i = .int .i64 k ∧ GRel s (greyF F) w (3 * k) u wr) (fun i _ => m - (intOf i).toNat)
  case atStart => exact ⟨0, .slice none 0 0, by omega, rfl, World.ownsRow_nil _ _ _ _, Blk.new_at _ _ _ rfl, (Below.refl _ _).alloc (Nat.le_refl _) _⟩
  case round =>
    obtain ⟨k, u, hk, rfl, hrel⟩ := hrel
    have HL := hid hrel
    by_cases hlt : k < m
    · have hsrc : wr.cell? ⟨b, off + k, none⟩ = some (.float .f32 (F k)) := by rw [hrel.be.cell (p := ⟨b, off + k, none⟩) hb]; exact HR.out k (by have := HM.out; omega)
      have e := fin_kind (F k)
      have q1 : (k : Int) < (m : Int) := by omega
      by_cases h3 : kindC (F k % 2147483648) < 3
      · have h3' : ¬ 3 ≤ kindC (F k % 2147483648) := by omega
        have hown := hrel.own
        have c3 := hrel.box.cell 3
        simp at c3
        have HLT := hid hrel.box.lt
        clear hrel h3 e
        go_wp2_with (first | (go_at_call 13; refine (kind_any _ _).mono ?_; rintro e w' ⟨rfl, rfl⟩) | (at_builtin; refine wpList_append_own _ rfl _ _ 22 rfl (w.heap.size + 1) 23 i0 (.float .f32 0) 1 4 Try.underlying22 hi hz0 hz1 hz2 rfl (by decide) _ _ _ rfl (hown.alloc _) ⟨wr.heap.size, 0, none⟩ 3 3 [.float .f32 (F k), .float .f32 (F k), .float .f32 (F k)] rfl rfl ?c1 ?c2 ?c3 ?c4 ?c5 ?_))
        case c1 =>
          intro j u hj
          match j, hj with
          | 0, hj => simp at hj; subst hj; simp [Addr.add]
          | 1, hj => simp at hj; subst hj; simp [Addr.add]
          | 2, hj => simp at hj; subst hj; simp [Addr.add]
        case c2 => intro u hu; simp at hu; subst hu; rfl
        case c3 => unfold maxLen; have := HM.out; omega
        case c4 => have := HM.out; omega
        case c5 => have := HLT.out; simp; omega
        intro v' w2 hown' hgrow _
        obtain ⟨g, cap, hv, hbg, hgl⟩ := hown'.form (by omega)
        subst hv
        have hblk2 := blk_grown HL.out.box (by omega) HL.out.own hgrow
        have d3 := hblk2.cell 3
        have fz := fun i => hblk2.frozen i
        simp at d3
        have eF : greyF F (3 * k) = F k ∧ greyF F (3 * k + 1) = F k ∧ greyF F (3 * k + 2) = F k := by unfold greyF; refine ⟨?_, ?_, ?_⟩ <;> congr 1 <;> omega
        have R := HL.out.step (by rw [eF.1, eF.2.1, eF.2.2]; exact hown') hgrow
        have HR2 := hid R
        clear hown' hgrow hown hblk2 R eF c3 hsrc
        go_wp2
        go_roundw
        case rel => exact ⟨k + 1, _, by omega, by go_num, HR2.out⟩
        case measure => simp [intOf]; omega
      · have h3' : 3 ≤ kindC (F k % 2147483648) := by omega
        clear hrel h3 e
        go_wp2_with (go_at_call 13; refine (kind_any _ _).mono ?_; rintro e w' ⟨rfl, rfl⟩)
        go_ret
        exact ⟨rfl, HL.out.be⟩
    · obtain rfl : k = m := by omega
      obtain ⟨g, cap, rfl, hmc, hbg, hsrc⟩ := src_own (by have := HM.out; omega) HL.out.own
      have c0 := hrel.box.cell 0
      have c1 := hrel.box.cell 1
      have c2 := hrel.box.cell 2
      have c3 := hrel.box.cell 3
      simp at c0 c1 c2 c3
      have px : pix (fun j => if j < 3 then v else 1065353216) = .agg #[.float .f32 v, .float .f32 v, .float .f32 v, .float .f32 1065353216] := rfl
      have HT := hid (tetraT_any s 0 1065353216 (3 * k) cap (some ⟨g, 0, none⟩) (greyF F) (fun j => if j < 3 then v else 1065353216) wr HOK.out hmc hsrc)
      have HS := hid hsrc
      clear hrel hsrc
      go_wp2_with fail
      refine HT.out.mono ?_
      rintro e w2 ⟨rfl, hb2⟩
      have hbox2 := HL.out.box.below hb2 HL.out.box.lt
      have HB2 := hid hbox2
      have HE2 := hid (below_to HL.out.be hb2)
      have HS2 := hid (HS.out.below hb2)
      obtain ⟨c0, -, -⟩ := cell_allocs hbox2.lt (by simpa using hbox2.cell 0)
      obtain ⟨c1, -, -⟩ := cell_allocs hbox2.lt (by simpa using hbox2.cell 1)
      obtain ⟨c2, -, -⟩ := cell_allocs hbox2.lt (by simpa using hbox2.cell 2)
      obtain ⟨c3, -, -⟩ := cell_allocs hbox2.lt (by simpa using hbox2.cell 3)
      have HQ := hid (And.intro (tet_grey F (fun j => if j < 3 then v else 1065353216) s 0 1065353216 1 (by decide)) (tet_grey F (fun j => if j < 3 then v else 1065353216) s 0 1065353216 2 (by decide)))
      generalize tetP s 0 1065353216 (greyF F) (fun j => if j < 3 then v else 1065353216) = P at *
      have pP : pix P = .agg #[.float .f32 (P 0), .float .f32 (P 0), .float .f32 (P 0), .float .f32 (P 3)] := by rw [pix_cells, HQ.out.1, HQ.out.2]
      clear hb2 hbox2
      have HT2 := hid (linearL_any s 0 1065353216 (3 * k) cap (some ⟨g, 0, none⟩) (greyF F) (fun j => if j < 3 then v else 1065353216) (w2.alloc (.cells #[.float .f32 (P 0), .float .f32 (P 0), .float .f32 (P 0), .float .f32 (P 3)] 29)) HOK.out hmc (HS2.out.below ((Below.refl _ _).alloc (Nat.le_refl _) _)))
      go_wp2_with fail
      refine HT2.out.mono ?_
      rintro e w3 ⟨rfl, hb3⟩
      have hp3 : Blk w3 w2.heap.size 29 #[.float .f32 (P 0), .float .f32 (P 0), .float .f32 (P 0), .float .f32 (P 3)] := (Blk.new w2 _ _).below hb3 (by simp)
      have HE3 := hid (below_to HE2.out (below_box hb3))
      have hlt3 := hp3.lt
      obtain ⟨d0, -, -⟩ := cell_allocs hlt3 (by simpa using hp3.cell 0)
      obtain ⟨d1, -, -⟩ := cell_allocs hlt3 (by simpa using hp3.cell 1)
      obtain ⟨d2, -, -⟩ := cell_allocs hlt3 (by simpa using hp3.cell 2)
      have HQ2 := hid (And.intro (lin_grey F (fun j => if j < 3 then v else 1065353216) s 0 1065353216 1 (by decide)) (lin_grey F (fun j => if j < 3 then v else 1065353216) s 0 1065353216 2 (by decide)))
      generalize linP s 0 1065353216 (greyF F) (fun j => if j < 3 then v else 1065353216) = Q at *
      have pQ : pix Q = .agg #[.float .f32 (Q 0), .float .f32 (Q 0), .float .f32 (Q 0), .float .f32 (Q 3)] := by rw [pix_cells, HQ2.out.1, HQ2.out.2]
      clear hb3 hp3 c0 c1 c2 c3 pP
      go_wp2_with fail
      go_quiet ((go_at_call 16; exact Calls.quiet_of_same ((bits_any _ _).mono fun _ _ h => ⟨h.1, h.2.symm⟩)))
      go_wp2_with fail
      go_ret
      exact ⟨rfl, below_drewN (HE3.out.alloc (by have := HE3.out.size; omega) _) _⟩
end Go.Proofs.Ytmliblmkkcidkaa
