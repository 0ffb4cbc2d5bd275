/-
  Windows: Clone of points, copied.
-/
import Derived.Test.YtfeabmdioeelhaaYChk
import Derived.Deep.AppendLies
import Derived.Shelf.Abstract
namespace Go.Proofs.Ytfeabmdioeelhaa
open Go.RowKit Go.Shelf
attribute [local go_sem] run_store_float

theorem info_pnt : (Try.prog.info? 90).map (fun i => (i.zero, i.size, i.bytes)) = some (some (.agg #[.int .i64 0, .int .i64 0]), 2, 16) := by kernel_rfl

/-- The cells of points. -/
def ptL (P Q : Nat → Int) : Nat → List Value
  | 0 => []
  | n + 1 => ptL P Q n ++ [.int .i64 (P n), .int .i64 (Q n)]
theorem ptL_length (P Q : Nat → Int) : ∀ n, (ptL P Q n).length = n * 2
  | 0 => rfl
  | n + 1 => by simp [ptL, ptL_length P Q n]; omega
theorem ptL_get (P Q : Nat → Int) : ∀ n i, i < n → (ptL P Q n)[i * 2]? = some (.int .i64 (P i)) ∧ (ptL P Q n)[i * 2 + 1]? = some (.int .i64 (Q i))
  | 0, i, h => by omega
  | n + 1, i, h => by
    have hl := ptL_length P Q n
    unfold ptL
    by_cases e : i = n
    · subst e
      rw [List.getElem?_append_right (by omega), List.getElem?_append_right (by omega), hl]
      simp
    · rw [List.getElem?_append_left (by omega), List.getElem?_append_left (by omega)]
      exact ptL_get P Q n i (by omega)
theorem ptL_one (P Q : Nat → Int) : ∀ n, ∀ u ∈ ptL P Q n, u.oneCell' = true
  | 0, u, h => by simp [ptL] at h
  | n + 1, u, h => by
    unfold ptL at h
    rcases List.mem_append.1 h with h | h
    · exact ptL_one P Q n u h
    · simp at h; rcases h with rfl | rfl <;> rfl

/-- A row of points of its own: what it reads as, and that it may be written. -/
structure PRow (w : World) (g n : Nat) (P Q : Nat → Int) : Prop where
  lt : g < w.heap.size
  rd : RdP w g 0 n P Q
  fz : ∀ o, w.frozen? ⟨g, o, none⟩ = false
/-- A slice of points that was made behind w. -/
def NewP (w w' : World) (A : Option Addr) (n : Nat) (P Q : Nat → Int) : Prop := 0 < n → ∃ g, A = some ⟨g, 0, none⟩ ∧ w.heap.size ≤ g ∧ PRow w' g n P Q

theorem PRow.below {w w' : World} {g n : Nat} {P Q : Nat → Int} (h : PRow w g n P Q) (hb : Below w.heap.size w w') : PRow w' g n P Q :=
  ⟨Nat.lt_of_lt_of_le h.lt hb.size, h.rd.below hb h.lt, fun o => (hb.frozen (p := ⟨g, o, none⟩) h.lt).trans (h.fz o)⟩

set_option maxHeartbeats 1000000 in
theorem clone_any (A : Option Addr) (n c : Nat) (P Q : Nat → Int) (w : World) (hn : n ≤ 32) (hP : Pts w A n P Q) :
    Calls Try.prog 151 #[.slice A n c] w fun e w' => ∃ A' c', e = .returned (.slice A' n c') ∧ NewP w w' A' n P Q ∧ Below w.heap.size w w' := by
  have q54 : ∀ (w : World) (a : Option Addr) (n c n' c' : Nat), (binOp .eql 23 (.slice a n c) (.slice none n' c')).run Try.prog w = .ok (.bool a.isNone) w := fun w a n c n' c' => Lib.run_eql_slice_nil w _ _ a n c n' c' Try.underlying23
  obtain ⟨i0, hi, hz0, hz1, hz2⟩ := info_parts info_pnt
  have HP := hid hP
  clear hP
  cases A with
  | none =>
    have h0 : n = 0 := by
      rcases Nat.eq_zero_or_pos n with h | h
      · exact h
      · obtain ⟨b, off, e, _⟩ := HP.out h
        cases e
    subst h0
    go_enter Try.func151, Try.ntmps151
    go_wp2
    go_ret
    exact ⟨_, _, rfl, fun h => absurd h (by omega), Below.refl _ _⟩
  | some ad =>
    have hcells : ∀ j u, (ptL P Q n)[j]? = some u → w.cell? (ad.add j) = some u := by
      intro j u hj
      have hlt : j < n * 2 := by rw [← ptL_length P Q n]; exact (List.getElem?_eq_some_iff.1 hj).1
      obtain ⟨b, off, e, hb, hr⟩ := HP.out (by omega)
      cases e
      have hg := ptL_get P Q n (j / 2) (by omega)
      have hrr := hr (j / 2) (by omega)
      rw [Addr.add_lit]
      rcases Nat.mod_two_eq_zero_or_one j with h | h
      · rw [show j / 2 * 2 = j by omega] at hg hrr
        rw [hrr.1, ← hg.1, hj]
      · rw [show j / 2 * 2 + 1 = j by omega] at hg
        rw [show off + j / 2 * 2 + 1 = off + j by omega] at hrr
        rw [hrr.2, ← hg.2, hj]
    have HC := hid hcells
    clear hcells
    go_enter Try.func151, Try.ntmps151
    go_wp2_with (at_builtin; refine wpList_append_own _ rfl _ _ 23 rfl w.heap.size 90 i0 (.agg #[.int .i64 0, .int .i64 0]) 2 16 Try.underlying23 hi hz0 hz1 hz2 rfl (by decide) _ _ _ rfl (World.ownsRow_made w #[] 0 (Nat.le_refl _) (Nat.zero_le _) rfl) ad n c (ptL P Q n) rfl ?qc1 ?qc2 ?qc3 ?qc4 ?qc5 ?qc6 ?_)
    case qc1 => rw [ptL_length]
    case qc2 =>
      intro j u hj
      exact Lib.cell?_alloc_some _ (HC.out j u hj)
    case qc3 => exact ptL_one P Q n
    case qc4 => unfold maxLen; omega
    case qc5 => omega
    case qc6 => simp
    intro v' w1 hown hgrow hnil
    have HO := hid hown
    have HG := hid hgrow
    clear hown hgrow
    go_wp2
    go_ret
    have hown : w1.ownsRow w.heap.size 90 2 v' n (ptL P Q n) := by simpa using HO.out
    have hbe : Below w.heap.size w w1 := ((Below.refl _ w).alloc (Nat.le_refl _) _).grown HG.out (by simp) (by intro k hk; simp [Value.ownBlock] at hk; omega)
    rcases hown.2 with ⟨rfl, h0⟩ | ⟨g, cap, cur, rfl, hbg, hg, hnc, hcm, hcs, htk⟩
    · exact absurd rfl hnil
    · refine ⟨_, _, rfl, fun hn0 => ⟨g, rfl, hbg, ?_, ?_, ?_⟩, hbe⟩
      · exact (Array.getElem?_eq_some_iff.1 hg).1
      · intro i hi2
        obtain ⟨e1, e2⟩ := ptL_get P Q n i hi2
        have h1 := hown.cells (g := g) rfl _ _ e1
        have h2 := hown.cells (g := g) rfl _ _ e2
        rw [Addr.add_lit] at h1 h2
        rw [Nat.zero_add] at h1 h2 ⊢
        exact ⟨h1, h2⟩
      · intro o
        simp [World.frozen?, hg]

abbrev zwin : Array Value := #[.int .i64 0, .float .f32 0, .float .f32 0, .float .f32 0, .float .f32 0, .float .f32 0, .slice none 0 0, .bool false]
theorem Blk.set8 {w : World} {g : Nat} {t : TypeId} {c0 c1 c2 c3 c4 c5 c6 c7 : Value} (h : Blk w g t #[c0, c1, c2, c3, c4, c5, c6, c7]) (u0 u1 u2 u3 u4 u5 u6 u7 : Value) :
    Blk ((((((((w.setCell ⟨g, 0, none⟩ u0).setCell ⟨g, 1, none⟩ u1).setCell ⟨g, 2, none⟩ u2).setCell ⟨g, 3, none⟩ u3).setCell ⟨g, 4, none⟩ u4).setCell ⟨g, 5, none⟩ u5).setCell ⟨g, 6, none⟩ u6).setCell ⟨g, 7, none⟩ u7) g t #[u0, u1, u2, u3, u4, u5, u6, u7] := by
  simpa using (((((((h.set_ 0 u0).set_ 1 u1).set_ 2 u2).set_ 3 u3).set_ 4 u4).set_ 5 u5).set_ 6 u6).set_ 7 u7
theorem below_set8 {B : Nat} {a w : World} (h : Below B a w) {g : Nat} (hg : B ≤ g) (u0 u1 u2 u3 u4 u5 u6 u7 : Value) :
    Below B a ((((((((w.setCell ⟨g, 0, none⟩ u0).setCell ⟨g, 1, none⟩ u1).setCell ⟨g, 2, none⟩ u2).setCell ⟨g, 3, none⟩ u3).setCell ⟨g, 4, none⟩ u4).setCell ⟨g, 5, none⟩ u5).setCell ⟨g, 6, none⟩ u6).setCell ⟨g, 7, none⟩ u7) :=
  (((((((h.setCell (p := ⟨g, 0, none⟩) hg u0).setCell (p := ⟨g, 1, none⟩) hg u1).setCell (p := ⟨g, 2, none⟩) hg u2).setCell (p := ⟨g, 3, none⟩) hg u3).setCell (p := ⟨g, 4, none⟩) hg u4).setCell (p := ⟨g, 5, none⟩) hg u5).setCell (p := ⟨g, 6, none⟩) hg u6).setCell (p := ⟨g, 7, none⟩) hg u7
/-- A row of points, behind a store elsewhere. -/
theorem PRow.far {w : World} {g n : Nat} {P Q : Nat → Int} (h : PRow w g n P Q) {p : Addr} (hp : g ≠ p.block) (u : Value) : PRow (w.setCell p u) g n P Q := by
  have e : ∀ o, (w.setCell p u).cell? ⟨g, o, none⟩ = w.cell? ⟨g, o, none⟩ := fun o => World.cell?_setCell_other w p ⟨g, o, none⟩ u (fun e => hp (by rw [e]))
  refine ⟨by simpa [World.setCell] using h.lt, fun i hi => ?_, fun o => ?_⟩
  · rw [e, e]; exact h.rd i hi
  · rw [World.frozen?_of_block (w := w) (a := ⟨g, o, none⟩) (Below.heap_setCell w p u g hp)]; exact h.fz o
theorem PRow.far8 {w : World} {g n : Nat} {P Q : Nat → Int} (h : PRow w g n P Q) {b : Nat} (hg : g ≠ b) (u0 u1 u2 u3 u4 u5 u6 u7 : Value) :
    PRow ((((((((w.setCell ⟨b, 0, none⟩ u0).setCell ⟨b, 1, none⟩ u1).setCell ⟨b, 2, none⟩ u2).setCell ⟨b, 3, none⟩ u3).setCell ⟨b, 4, none⟩ u4).setCell ⟨b, 5, none⟩ u5).setCell ⟨b, 6, none⟩ u6).setCell ⟨b, 7, none⟩ u7) g n P Q :=
  (((((((h.far (p := ⟨b, 0, none⟩) hg u0).far (p := ⟨b, 1, none⟩) hg u1).far (p := ⟨b, 2, none⟩) hg u2).far (p := ⟨b, 3, none⟩) hg u3).far (p := ⟨b, 4, none⟩) hg u4).far (p := ⟨b, 5, none⟩) hg u5).far (p := ⟨b, 6, none⟩) hg u6).far (p := ⟨b, 7, none⟩) hg u7

set_option maxRecDepth 100000 in
set_option maxHeartbeats 2000000 in
theorem copied_any (K : Int) (X Y W H S : Nat) (A : Option Addr) (n c : Nat) (o : Bool) (P Q : Nat → Int) (w : World) (hn : n ≤ 32) (hP : Pts w A n P Q) :
    Calls Try.prog 73 #[win K X Y W H S A n c o] w fun e w' => ∃ A' c', e = .returned (win K X Y W H S A' n c' o) ∧ NewP w w' A' n P Q ∧ Below w.heap.size w w' := by
  have HP := hid hP
  clear hP
  go_enter Try.func73, Try.ntmps73
  go_wp2_with fail
  refine (clone_any A n c P Q _ hn (HP.out.below (((Below.refl _ _).alloc (Nat.le_refl _) _).alloc (by simp) _))).mono ?_
  rintro e w1 ⟨A', c', rfl, hN, hb⟩
  have B1 : Blk w1 w.heap.size 25 (winA K X Y W H S A n c o) := ((Blk.new_at w 25 (winA K X Y W H S A n c o) rfl).alloc (.cells zwin 25)).below hb (by simp <;> omega)
  have B2 : Blk w1 (w.heap.size + 1) 25 zwin := (Blk.new_at (w.alloc (.cells (winA K X Y W H S A n c o) 25)) 25 zwin (by simp)).below hb (by simp <;> omega)
  have HN := hid hN
  have HB := hid hb
  have H1 := hid B1
  have H2 := hid B2
  have l1 := B1.lt
  have l2 := B2.lt
  have c0 := B1.cell 0
  have c1 := B1.cell 1
  have c2 := B1.cell 2
  have c3 := B1.cell 3
  have c4 := B1.cell 4
  have c5 := B1.cell 5
  have c6 := B1.cell 6
  have c7 := B1.cell 7
  have f1 := fun i => B1.frozen i
  have d0 := B2.cell 0
  have d1 := B2.cell 1
  have d2 := B2.cell 2
  have d3 := B2.cell 3
  have d4 := B2.cell 4
  have d5 := B2.cell 5
  have d6 := B2.cell 6
  have d7 := B2.cell 7
  have f2 := fun i => B2.frozen i
  simp at c0 c1 c2 c3 c4 c5 c6 c7 d0 d1 d2 d3 d4 d5 d6 d7
  clear B1 B2 hN hb
  go_wp2_with fail
  have hblk := (H2.out.far (p := ⟨w.heap.size, 6, none⟩) (by simp) (.slice A' n c')).set8 (.int .i64 K) (.float .f32 X) (.float .f32 Y) (.float .f32 W) (.float .f32 H) (.float .f32 S) (.slice A' n c') (.bool o)
  refine bodyPost_ret (v := win K X Y W H S A' n c' o) (results_cell_row rfl _ _ _ _ _ _ _ rfl hblk Try.underlying25 rfl (by kernel_rfl)) rfl ?_
  refine ⟨A', c', rfl, fun h0 => ?_, ?_⟩
  · obtain ⟨g, e, hg, hr⟩ := HN.out h0
    simp at hg
    exact ⟨g, e, by omega, (hr.far (p := ⟨w.heap.size, 6, none⟩) (by show g ≠ w.heap.size; omega) _).far8 (by omega) _ _ _ _ _ _ _ _⟩
  · refine below_set8 (Below.setCell (?_ : Below w.heap.size w w1) (by simp) _) (by omega) _ _ _ _ _ _ _ _
    exact (((Below.refl _ _).alloc (Nat.le_refl _) _).alloc (by simp) _).trans (HB.out.mono (by simp; omega))
end Go.Proofs.Ytfeabmdioeelhaa
