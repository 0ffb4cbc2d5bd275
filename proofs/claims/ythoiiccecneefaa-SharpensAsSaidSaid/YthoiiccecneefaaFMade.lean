/-
  Made: the reference's frame of pixels that a function value makes.
-/
import Derived.Test.YthoiiccecneefaaFBuild
import Derived.Test.YthoiiccecneefaaFTotal
import Derived.Deep.RegionLaw
import Derived.Deep.QuietTactic
import Derived.Deep.RegionWith
import Derived.Deep.DrawnRows
namespace Go.Proofs.Ythoiiccecneefaa
open Go.RowKit Go.Shelf
attribute [local go_sem ↓] Go.wp_at_zero Go.wp_at_succ

theorem run_index_pix (f : Nat → Nat) (k : Nat) (hk : k < 4) (w : World) : (Instr.index 47 (.agg #[.float .f32 (f 0), .float .f32 (f 1), .float .f32 (f 2), .float .f32 (f 3)]) (.int .i64 (k : Int))).run Try.prog w = .ok (.float .f32 (f k)) w := by
  have : k = 0 ∨ k = 1 ∨ k = 2 ∨ k = 3 := by omega
  rcases this with h | h | h | h <;> subst h <;> simp [Instr.index, run_underlying Try.underlying47, asIntOf, go_sem]

def PixGave (w1 : World) (g : Nat → Nat) (e : Ending) (w2 : World) : Prop := ∃ f : Nat → Nat, e = .returned (pix f) ∧ (∀ k, k < 4 → cl (f k) = g k) ∧ Below w1.heap.size w1 w2
/-- What a function value makes of the pixels of p * q places. -/
def PixGives (K : FuncId) (caps : Array Value) (w : World) (X Y : Int) (p q : Nat) (G : Nat → Nat → Nat → Nat) : Prop :=
  ∀ (i j : Nat) (w1 : World), i < p → j < q → Below w.heap.size w w1 → Calls Try.prog K (#[.int .i64 (X + i), .int .i64 (Y + j)] ++ caps) w1 (PixGave w1 (G i j))

def MRel (w : World) (X Y : Int) (p q : Nat) (F : Nat → Nat) (t : Nat) (v : Value) (wr : World) : Prop :=
  wr.ownsRow (w.heap.size + 3) 40 1 v t (rowL F t) ∧ Blk wr w.heap.size 23 #[.int .i64 X, .int .i64 Y, .int .i64 p, .int .i64 q] ∧ Blk wr (w.heap.size + 1) 26 zfrm ∧
    Blk wr (w.heap.size + 2) 26 #[.int .i64 X, .int .i64 Y, .int .i64 p, .int .i64 q, v] ∧ Below w.heap.size w wr

section
variable {w : World} {X Y : Int} {p q : Nat} {F : Nat → Nat} {t : Nat} {v v' : Value} {wr w1 w2 : World}
theorem MRel.size (h : MRel w X Y p q F t v wr) : w.heap.size + 3 ≤ wr.heap.size := h.2.2.2.1.lt
theorem MRel.step {o : Obj} {r g cap : Nat} (h : MRel w X Y p q F t v wr) (hr : r = F t) (ho : w2.ownsRow (w.heap.size + 3) 40 1 (.slice (some ⟨g, 0, none⟩) (t + 1) cap) (t + 1) (rowL F t ++ [.float .f32 r]))
    (hg : (wr.drew.alloc o).grownBy w2 v.ownBlock) : MRel w X Y p q F (t + 1) (.slice (some ⟨g, 0, none⟩) (t + 1) cap) (w2.setCell ⟨w.heap.size + 1 + 1, 4, none⟩ (.slice (some ⟨g, 0, none⟩) (t + 1) cap)) := by
  have hd : MRel w X Y p q F t v wr.drew := ⟨h.1, h.2.1, h.2.2.1, h.2.2.2.1, h.2.2.2.2.drew⟩
  obtain ⟨h1, h2, h3, h4, h5⟩ := hd
  have hs := h.size
  refine ⟨ownsRow_setCell_below (by rw [rowL_succ, ← hr]; exact ho) (by simp) _, (blk_grown h2 (by omega) h1 hg).far (by simp; omega) _, (blk_grown h3 (by omega) h1 hg).far (by simp) _, ?_, (below_grown (wr := wr.drew) h5 (by show w.heap.size ≤ wr.heap.size; omega) (by omega) h1 hg).setCell (by simp; omega) _⟩
  have := (blk_grown h4 (by omega) h1 hg).set_ 4 (.slice (some ⟨g, 0, none⟩) (t + 1) cap)
  simpa using this
theorem MRel.below (h : MRel w X Y p q F t v wr) (hb : Below wr.heap.size wr w1) : MRel w X Y p q F t v w1 :=
  ⟨own_below h.1 hb, h.2.1.below hb h.2.1.lt, h.2.2.1.below hb h.2.2.1.lt, h.2.2.2.1.below hb h.2.2.2.1.lt, h.2.2.2.2.trans (hb.mono h.2.2.2.2.size)⟩
end

set_option maxRecDepth 100000 in
set_option maxHeartbeats 2000000 in
theorem made_any (K : FuncId) (caps : Array Value) (eK : ∀ (args : Array Value) (w : World), (callFunc K args).run Try.prog w = .ok (.enter K args) w) (X Y : Int) (p q m : Nat) (G : Nat → Nat → Nat → Nat) (w : World)
    (hm : m = 4 * (p * q)) (hm2 : m ≤ 65536) (hp : 0 < p) (hq : 0 < q) (hp2 : p ≤ 256) (hq2 : q ≤ 256) (x1 : -1048576 ≤ X) (x2 : X ≤ 1048576) (y1 : -1048576 ≤ Y) (y2 : Y ≤ 1048576) (hG : PixGives K caps w X Y p q G) :
    Calls Try.prog 30 #[reg X Y p q, .func (.func K) #[] caps] w (Framed w X Y p q m (gI G p)) := by
  have HG := hid hG
  have HM := hid hm
  have hpq : 0 < p * q := Nat.mul_pos hp hq
  have HPQ := hid hpq
  have hm0 : 0 < m := by omega
  clear hG hm hpq
  obtain ⟨i0, hi, hz0, hz1, hz2⟩ := info_parts info_f32
  go_enter Try.func30, Try.ntmps30
  go_wp2
  go_loopw [6] (fun i wr => ∃ (j : Nat) (A : Option Addr) (c : Nat), j ≤ q ∧ i = .int .i64 (Y + j) ∧ MRel w X Y p q (gI G p) (4 * (p * j)) (.slice A (4 * (p * j)) c) wr) (fun i _ => (Y + q - intOf i).toNat)
  case atStart =>
    refine ⟨0, none, 0, Nat.zero_le _, by simp, World.ownsRow_nil _ _ _ _, ((Blk.new_at _ _ _ rfl).alloc _).alloc _, (Blk.new_at _ _ _ (by simp)).alloc _, Blk.new_at _ _ _ (by simp), ?_⟩
    exact (((Below.refl _ _).alloc (Nat.le_refl _) _).alloc (by simp) _).alloc (by simp; omega) _
  case round =>
    obtain ⟨j, A, c, hj, rfl, hrel⟩ := hrel
    have HL := hid hrel
    have c0 := hrel.2.1.cell 0
    have c1 := hrel.2.1.cell 1
    have c2 := hrel.2.1.cell 2
    have c3 := hrel.2.1.cell 3
    simp at c0 c1 c2 c3
    clear hrel
    by_cases hjq : j < q
    · obtain ⟨wo, rfl⟩ : ∃ wo : World, wo = wr := ⟨_, rfl⟩
      go_wp2
      go_loopw [7] (fun i wr => ∃ (i1 : Nat) (A : Option Addr) (c : Nat), i1 ≤ p ∧ i = .int .i64 (X + i1) ∧ MRel w X Y p q (gI G p) (4 * (p * j + i1)) (.slice A (4 * (p * j + i1)) c) wr) (fun i _ => (X + p - intOf i).toNat)
      case atStart => exact ⟨0, A, c, Nat.zero_le _, by simp, HL.out⟩
      case round =>
        clear HL c0 c1 c2 c3
        obtain ⟨i1, A, c, hi1, rfl, hrel⟩ := hrel
        have HL := hid hrel
        have c0 := hrel.2.1.cell 0
        have c1 := hrel.2.1.cell 1
        have c2 := hrel.2.1.cell 2
        have c3 := hrel.2.1.cell 3
        simp at c0 c1 c2 c3
        by_cases hip : i1 < p
        · obtain ⟨wo2, rfl⟩ : ∃ wo2 : World, wo2 = wr := ⟨_, rfl⟩
          have hcall := HG.out i1 j wo2 hip hjq hrel.2.2.2.2
          have HC := hid hcall
          clear hcall hrel
          go_wp2_with fail
          refine HC.out.mono ?_
          rintro e w1 ⟨f, rfl, hf, hb1⟩
          have HL1 := hid (HL.out.below hb1)
          have HFF := hid hf
          have px := pix_cells f
          clear hf hb1 HL HC c0 c1 c2 c3
          go_wp2
          go_loopw [38] (fun i wr => ∃ (k : Nat) (A : Option Addr) (c : Nat), k ≤ 4 ∧ i = .int .i64 k ∧ MRel w X Y p q (gI G p) (4 * (p * j + i1) + k) (.slice A (4 * (p * j + i1) + k) c) wr) (fun i _ => 4 - (intOf i).toNat)
          case atStart => exact ⟨0, A, c, by omega, by simp, HL1.out⟩
          case round =>
            clear HL1
            obtain ⟨k, A, c, hk, rfl, hrel⟩ := hrel
            have HL := hid hrel
            by_cases hk4 : k < 4
            · have HGI := hid (gI_at G (j := j) hip hk4)
              have hidx := run_index_pix f k hk4
              have hlt := idx_lt hip hjq
              obtain ⟨t, ht⟩ : ∃ t, t = 4 * (p * j + i1) + k := ⟨_, rfl⟩
              rw [← ht] at hrel HL
              have htm : t < m := by have := HM.out; omega
              have HT := hid ht
              have d4 := hrel.2.2.2.1.cell 4
              have fz := fun i => hrel.2.2.2.1.frozen i
              simp at d4
              have hown := hrel.1
              have hsz : w.heap.size + 1 + 1 < wr.heap.size := by have := HL.out.size; omega
              have dd := fun o => World.cell?_alloc_lt wr o ⟨w.heap.size + 1 + 1, 4, none⟩ hsz
              clear ht hlt hrel
              go_wp2
              go_region_law (first
                | (go_simp; go_at_call 42; refine (fix_any _ _).mono ?_; rintro e w' ⟨rfl, rfl⟩)
                | ((refine step_append_lies _ (by rfl) (.tmp 42) (.tmp 45) 24 (by rfl) (w.heap.size + 3) 40 i0 (.float .f32 0) 1 4 Try.underlying24 hi hz0 hz1 hz2 rfl (by decide) (.slice A t c) t (rowL (gI G p) t) (by rfl) (hown.alloc _) ⟨wr.heap.size, 0, none⟩ 1 1 [.float .f32 (cl (f k))] (by rfl) rfl (World.news_of_block (heap_alloc_new _ _)) (by intro u hu; simp at hu; subst hu; rfl) (by decide) (by unfold maxLen; omega) (by omega) (by simp; omega) (wr.heap.size + 1) (by simp) ?_; intro g cap w2 hown2 hgrow hat hlt; have hblk2 := blk_grown (wr := wr.drew) (show Blk wr.drew _ _ _ from HL.out.2.2.2.1) (by omega) (show wr.drew.ownsRow _ _ _ _ _ _ from hown) hgrow; have d42 := hblk2.cell 4; have fz2 := fun i => hblk2.frozen i; simp at d42; have R := HL.out.step (by rw [HFF.out k hk4, HT.out, HGI.out]) hown2 hgrow; have HR := hid R; clear hblk2 R hown2 hgrow)))
              all_goals
                go_wp2
                go_roundw
                case rel => exact ⟨k + 1, _, _, by omega, by go_num, by have := HT.out; rw [show 4 * (p * j + i1) + (k + 1) = t + 1 by omega]; exact HR.out⟩
                case measure => simp [intOf]; omega
            · have hk5 : k = 4 := by omega
              subst hk5
              have r0 := hrel.2.1.cell 0
              have r2 := hrel.2.1.cell 2
              simp at r0 r2
              clear hrel
              go_wp2
              go_roundw
              case rel => exact ⟨i1 + 1, A, c, by omega, by congr 1; omega, by rw [show 4 * (p * j + (i1 + 1)) = 4 * (p * j + i1) + 4 by omega]; exact HL.out⟩
              case measure => simp [intOf]; omega
        · have hip5 : i1 = p := by omega
          subst hip5
          clear hrel
          go_wp2
          go_roundw
          case rel => exact ⟨j + 1, A, c, by omega, by congr 1; omega, by rw [Nat.mul_succ]; exact HL.out⟩
          case measure => simp [intOf]; omega
    · have hj5 : j = q := by omega
      subst hj5
      obtain ⟨g, cap, hv, hbg, hgl⟩ := HL.out.1.form (by have := HPQ.out; omega)
      have e4 : 4 * (p * j) = m := HM.out.symm
      rw [e4] at hv
      have HL2 : RowKit.Hid (MRel w X Y p j (gI G p) m (.slice (some ⟨g, 0, none⟩) m cap) wr) := by rw [← hv, ← e4]; exact HL.out
      have z0 := HL2.out.2.2.1.cell 0
      have z1 := HL2.out.2.2.1.cell 1
      have z2 := HL2.out.2.2.1.cell 2
      have z3 := HL2.out.2.2.1.cell 3
      have z4 := HL2.out.2.2.1.cell 4
      have v0 := HL2.out.2.2.2.1.cell 0
      have v1 := HL2.out.2.2.2.1.cell 1
      have v2 := HL2.out.2.2.2.1.cell 2
      have v3 := HL2.out.2.2.2.1.cell 3
      have v4 := HL2.out.2.2.2.1.cell 4
      have f1 := fun i => HL2.out.2.2.1.frozen i
      simp at z0 z1 z2 z3 z4 v0 v1 v2 v3 v4
      have hblk := HL2.out.2.2.1.set5 (.int .i64 X) (.int .i64 Y) (.int .i64 p) (.int .i64 j) (.slice (some ⟨g, 0, none⟩) m cap)
      have HBK := hid hblk
      clear hblk e4 HL hv
      go_wp2
      refine bodyPost_ret (v := frm X Y p j (some ⟨g, 0, none⟩) m cap) (results_cell_row rfl _ _ _ _ _ _ _ rfl HBK.out Try.underlying26 rfl (by kernel_rfl)) rfl ?_
      obtain ⟨b, c, he, q1, q2, q3, q4, q5, q6⟩ := Planed.of_own (w := w) hm0 (by omega) HL2.out.1 HL2.out.2.2.2.2
      simp at he
      obtain ⟨rfl, rfl⟩ := he
      exact ⟨g, cap, rfl, q1, q2, q3, by rw [size_set5]; exact q4, q5.far5 (by omega) _ _ _ _ _, below_set5 q6 (by omega) _ _ _ _ _⟩
end Go.Proofs.Ythoiiccecneefaa
