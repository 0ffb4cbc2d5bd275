/-
  The library's stable sort at singles: swapping ranges, rotating.
-/
import Derived.Test.YtbenjfipbeikmaaSum
import Derived.Test.YtbenjfipbeikmaaShuf
import Derived.BigRegion
namespace Go.Proofs.Ytbenjfipbeikmaa
open Go.RowKit

/-- Block b alone may have changed, in its cells' values; draws aside. -/
structure Sort1 (b : Nat) (w w' : World) : Prop where
  os : w'.os = w.os
  tape : w'.tape = w.tape
  out : w'.output = w.output
  size : w'.heap.size = w.heap.size
  other : ∀ i, i ≠ b → w'.heap[i]? = w.heap[i]?
  froz : ∀ a, w'.frozen? a = w.frozen? a

theorem sort1_refl (b : Nat) (w : World) : Sort1 b w w := ⟨rfl, rfl, rfl, rfl, fun _ _ => rfl, fun _ => rfl⟩
theorem sort1_trans {b : Nat} {w w' w'' : World} (h : Sort1 b w w') (g : Sort1 b w' w'') : Sort1 b w w'' :=
  ⟨g.os.trans h.os, g.tape.trans h.tape, g.out.trans h.out, g.size.trans h.size, fun i hi => (g.other i hi).trans (h.other i hi), fun a => (g.froz a).trans (h.froz a)⟩
theorem sort1_drew {b : Nat} {w w' : World} (h : Sort1 b w w') : Sort1 b w w'.drew := ⟨h.os, h.tape, h.out, h.size, h.other, h.froz⟩
theorem sort1_drewN {b : Nat} {w w' : World} (h : Sort1 b w w') (n : Nat) : Sort1 b w (w'.drewN n) := ⟨h.os, h.tape, h.out, h.size, h.other, h.froz⟩
theorem sort1_set {b : Nat} {w w' : World} (h : Sort1 b w w') (o : Nat) (v : Value) : Sort1 b w (w'.setCell ⟨b, o, none⟩ v) := by
  refine ⟨h.os, h.tape, h.out, ?_, ?_, ?_⟩
  · rw [← h.size]; simp [World.setCell]
  · intro i hi
    rw [← h.other i hi]
    simp only [World.setCell, Array.getElem?_modify]
    rw [if_neg (fun e => hi e.symm)]
  · intro a; rw [← h.froz a]; simp

/-- The slice's cells read as d, N of them; they may be written. -/
structure Cells (w : World) (b off N : Nat) (d : Nat → Nat) : Prop where
  cell : ∀ i, i < N → w.cell? ⟨b, off + i, none⟩ = some (.float .f32 (d i))
  open_ : ∀ i, i < N → w.frozen? ⟨b, off + i, none⟩ = false

theorem cells_drew {w : World} {b off N : Nat} {d : Nat → Nat} (h : Cells w b off N d) : Cells w.drew b off N d := ⟨h.cell, h.open_⟩
theorem cells_drewN {w : World} {b off N : Nat} {d : Nat → Nat} (h : Cells w b off N d) (n : Nat) : Cells (w.drewN n) b off N d := ⟨h.cell, h.open_⟩

theorem cells_set {w : World} {b off N : Nat} {d : Nat → Nat} (h : Cells w b off N d) (i v : Nat) (hi : i < N) : Cells (w.setCell ⟨b, off + i, none⟩ (.float .f32 v)) b off N (upd d i v) := by
  constructor
  · intro j hj
    unfold upd
    by_cases e : j = i
    · subst e; rw [if_pos rfl]; exact World.cell?_setCell_same' w _ _ (by rw [h.cell j hj]; rfl)
    · have hne : (⟨b, off + i, none⟩ : Addr) ≠ ⟨b, off + j, none⟩ := by intro hc; injection hc with _ h2 _; omega
      rw [if_neg e, World.cell?_setCell_other (h := hne)]; exact h.cell j hj
  · intro j hj; simp; exact h.open_ j hj

theorem cells_swap {w : World} {b off N : Nat} {d : Nat → Nat} (h : Cells w b off N d) (i j : Nat) (hi : i < N) (hj : j < N) :
    Cells ((w.setCell ⟨b, off + i, none⟩ (.float .f32 (d j))).setCell ⟨b, off + j, none⟩ (.float .f32 (d i))) b off N (swp d i j) := by
  have := cells_set (cells_set h i (d j) hi) j (d i) hj
  rw [swp_upd] at this; exact this

def theCmp : Value := .func (.func 92) #[] #[]

/-- A call that turns the cells from d to d'. -/
def Turns (b off N : Nat) (w : World) (d' : Nat → Nat) (e : Ending) (w' : World) : Prop := e = .returned (.tuple #[]) ∧ Cells w' b off N d' ∧ Sort1 b w w'

@[go_sem] theorem run_store_float (P : Program) (w : World) (a : Addr) (m : Mode) (k : FloatKind) (n : Nat) : (store a (.float k n) m).run P w = stored P w a (.float k n) m := run_store P w a _ m rfl

set_option maxRecDepth 100000 in
set_option maxHeartbeats 1000000 in
theorem swapRange_any (b off N cap A B n : Nat) (d : Nat → Nat) (w : World) (hc : Cells w b off N d) (hA : A + n ≤ B) (hB : B + n ≤ N) (hN : N ≤ 300) :
    Calls Try.prog 114 #[.slice (some ⟨b, off, none⟩) N cap, .int .i64 (A : Int), .int .i64 (B : Int), .int .i64 (n : Int), theCmp] w (Turns b off N w (swr d A B n)) := by
  have HC := hid hc; clear hc
  unfold theCmp
  go_enter Try.func114, Try.ntmps114
  go_wp2
  go_loopw [10] (fun v wr => ∃ i : Nat, i ≤ n ∧ v = .int .i64 (i : Int) ∧ RowKit.Hid (Cells wr b off N (swr d A B i)) ∧ RowKit.Hid (Sort1 b w wr)) (fun v _ => n - (intOf v).toNat)
  case atStart => exact ⟨0, Nat.zero_le _, rfl, by rw [swr_zero]; exact HC, sort1_refl b w⟩
  case round =>
    obtain ⟨i, hi, rfl, hr, hs⟩ := hrel
    by_cases hlt : i < n
    · have ca := hr.out.cell (A + i) (by omega)
      have cb := hr.out.cell (B + i) (by omega)
      have fa := hr.out.open_ (A + i) (by omega)
      have fb := hr.out.open_ (B + i) (by omega)
      have e1 : IntKind.i64.wrap ((A : Int) + (i : Int)) = (A : Int) + (i : Int) := by rw [IntKind.wrap_i64]; omega
      have e2 : IntKind.i64.wrap ((B : Int) + (i : Int)) = (B : Int) + (i : Int) := by rw [IntKind.wrap_i64]; omega
      have e3 : ((A : Int) + (i : Int)).toNat = A + i := by omega
      have e4 : ((B : Int) + (i : Int)).toNat = B + i := by omega
      have e5 : (0 : Int) ≤ (A : Int) + (i : Int) := by omega
      have e6 : (0 : Int) ≤ (B : Int) + (i : Int) := by omega
      have e7 : (A : Int) + (i : Int) < (N : Int) := by omega
      have e8 : (B : Int) + (i : Int) < (N : Int) := by omega
      have e9 : ¬ A + i = B + i := by omega
      go_wp2
      go_region
      go_wp2
      refine ⟨⟨i + 1, by omega, rfl, ?_, sort1_drew (sort1_set (sort1_set hs.out _ _) _ _)⟩, by simp [intOf]; omega⟩
      rw [← swr_succ d A B i (by omega)]
      exact cells_drew (cells_swap hr.out (A + i) (B + i) (by omega) (by omega))
    · obtain rfl : i = n := by omega
      go_wp2
      go_end0
      exact ⟨rfl, hr.out, hs.out⟩

set_option maxRecDepth 100000 in
set_option maxHeartbeats 1000000 in
theorem rotate_any (b off N cap A M B : Nat) (d : Nat → Nat) (w : World) (hc : Cells w b off N d) (hA : A < M) (hM : M < B) (hB : B ≤ N) (hN : N ≤ 300) :
    Calls Try.prog 112 #[.slice (some ⟨b, off, none⟩) N cap, .int .i64 (A : Int), .int .i64 (M : Int), .int .i64 (B : Int), theCmp] w (Turns b off N w (rot d A M B)) := by
  have HN := hid hN
  have HC := hid hc; clear hc
  unfold theCmp
  go_enter Try.func112, Try.ntmps112
  go_wp2
  go_loopw [10, 11] (fun v u wr => ∃ (i j : Nat) (dd : Nat → Nat), 1 ≤ i ∧ 1 ≤ j ∧ A + i ≤ M ∧ M + j ≤ B ∧ v = .int .i64 (i : Int) ∧ u = .int .i64 (j : Int) ∧ RowKit.Hid (rot dd (M - i) M (M + j) = rot d A M B) ∧ RowKit.Hid (Cells wr b off N dd) ∧ RowKit.Hid (Sort1 b w wr)) (fun v u _ => (intOf v).toNat + (intOf u).toNat)
  case atStart =>
    refine ⟨M - A, B - M, d, by omega, by omega, by omega, by omega, ?_, ?_, ?_, HC, sort1_refl b w⟩
    · rw [show ((M - A : Nat) : Int) = (M : Int) - (A : Int) from by omega]
    · rw [show ((B - M : Nat) : Int) = (B : Int) - (M : Int) from by omega]
    · show _ = _
      rw [show M - (M - A) = A from by omega, show M + (B - M) = B from by omega]
  case round =>
    obtain ⟨i, j, dd, h1, h2, h3, h4, rfl, rfl, hd, hr, hs⟩ := hrel
    have q1 : (M : Int) - (i : Int) = ((M - i : Nat) : Int) := by omega
    rcases Nat.lt_trichotomy i j with g | g | g
    · have q2 : (M : Int) + (j : Int) - (i : Int) = ((M + j - i : Nat) : Int) := by omega
      have b1 : ((i : Int) == (j : Int)) = false := by rw [beq_eq_false_iff_ne]; omega
      have b2 : ¬ (j : Int) < (i : Int) := by omega
      go_wp2_with (go_at_call 114; refine (swapRange_any b off N cap (M - i) (M + j - i) i dd _ hr.out (by omega) (by omega) HN.out).mono ?_; rintro e w' ⟨rfl, hk, hk2⟩)
      go_roundw
      case rel =>
        refine ⟨i, j - i, _, h1, by omega, h3, by omega, rfl, by rw [show ((j - i : Nat) : Int) = (j : Int) - (i : Int) from by omega], ?_, hk, sort1_trans hs.out hk2⟩
        show _ = _
        have := rot_right dd (M - i) M (M + j) (by omega) (by omega) (by omega)
        rw [show M + j - (M - (M - i)) = M + j - i from by omega, show M - (M - i) = i from by omega] at this
        rw [show M + (j - i) = M + j - i from by omega, this]; exact hd.out
      case measure => simp [intOf]; omega
    · subst g
      go_wp2_with (go_at_call 114; refine (swapRange_any b off N cap (M - i) M i dd _ hr.out (by omega) (by omega) HN.out).mono ?_; rintro e w' ⟨rfl, hk, hk2⟩)
      go_end0
      refine ⟨rfl, ?_, sort1_trans hs.out hk2⟩
      have := rot_even dd (M - i) M (M + i) (by omega) (by omega) (by omega)
      rw [show M - (M - i) = i from by omega, hd.out] at this
      rw [← this]; exact hk
    · have b1 : ((i : Int) == (j : Int)) = false := by rw [beq_eq_false_iff_ne]; omega
      have b2 : (j : Int) < (i : Int) := by omega
      go_wp2_with (go_at_call 114; refine (swapRange_any b off N cap (M - i) M j dd _ hr.out (by omega) (by omega) HN.out).mono ?_; rintro e w' ⟨rfl, hk, hk2⟩)
      go_roundw
      case rel =>
        refine ⟨i - j, j, _, by omega, h2, by omega, h4, by rw [show ((i - j : Nat) : Int) = (i : Int) - (j : Int) from by omega], rfl, ?_, hk, sort1_trans hs.out hk2⟩
        show _ = _
        have := rot_left dd (M - i) M (M + j) (by omega) (by omega) (by omega)
        rw [show M + j - M = j from by omega] at this
        rw [show M - (i - j) = M - i + j from by omega, this]; exact hd.out
      case measure => simp [intOf]; omega

/-- What the comparison gives. -/
def ckk (x y : Nat) : Int := if kk x < kk y then -1 else if kk y < kk x then 1 else 0
theorem ckk_neg (x y : Nat) : (ckk x y < 0) = (kk x < kk y) := by
  unfold ckk
  split
  · rename_i h; simp [h]
  · rename_i h
    split <;> simp [h]

set_option maxRecDepth 100000 in
set_option maxHeartbeats 1000000 in
theorem cmp_any (x y : Nat) (hx : x < 4294967296) (hy : y < 4294967296) (w : World) : Calls Try.prog 92 #[.float .f32 x, .float .f32 y] w fun e w' => e = .returned (.int .i64 (ckk x y)) ∧ w = w' := by
  go_enter Try.func92, Try.ntmps92
  go_wp2_with fail
  refine (placen_any x hx _).mono ?_; rintro e w' ⟨rfl, rfl⟩
  go_wp2_with fail
  refine (placen_any y hy _).mono ?_; rintro e w' ⟨rfl, rfl⟩
  go_wp2
  all_goals
    go_ret
    refine ⟨ret_int ?_, rfl⟩
    unfold ckk kk
    split <;> (try split) <;> omega

theorem cmp_q (x y : Nat) (hx : x < 4294967296) (hy : y < 4294967296) (w : World) : Calls Try.prog 92 #[.float .f32 x, .float .f32 y] w fun e w' => e = .returned (.int .i64 (ckk x y)) ∧ w' = w :=
  (cmp_any x y hx hy w).mono fun _ _ h => ⟨h.1, h.2.symm⟩

set_option maxRecDepth 100000 in
set_option maxHeartbeats 1000000 in
theorem insert_any (b off N cap A B : Nat) (d : Nat → Nat) (w : World) (hc : Cells w b off N d) (hd : ∀ x, x < N → d x < 4294967296) (hA : A ≤ B) (hB : B ≤ N) (hN : N ≤ 300) :
    Calls Try.prog 109 #[.slice (some ⟨b, off, none⟩) N cap, .int .i64 (A : Int), .int .i64 (B : Int), theCmp] w
      (fun e w' => ∃ d', Turns b off N w d' e w' ∧ Shuf A B d d' ∧ Srt d' A B) := by
  have HN := hid hN
  have HC := hid hc; clear hc
  have HD := hid hd; clear hd
  unfold theCmp
  go_enter Try.func109, Try.ntmps109
  go_wp2
  go_loopw [8] (fun v wr => ∃ (i : Nat) (dd : Nat → Nat), A + 1 ≤ i ∧ (i ≤ B ∨ i = A + 1) ∧ v = .int .i64 (i : Int) ∧ RowKit.Hid (Shuf A B d dd) ∧ RowKit.Hid (Srt dd A i) ∧ RowKit.Hid (Cells wr b off N dd) ∧ RowKit.Hid (Sort1 b w wr)) (fun v _ => B - (intOf v).toNat)
  case atStart => exact ⟨A + 1, d, by omega, Or.inr rfl, rfl, .refl d, srt_one d A (A + 1) (by omega), HC, sort1_refl b w⟩
  case round =>
    obtain ⟨i, dd, h1, h2, rfl, hs, ht, hr, hw⟩ := hrel
    by_cases hlt : i < B
    · go_wp2
      go_loopw [9] (fun v wr' => ∃ (j : Nat) (ee : Nat → Nat), A ≤ j ∧ j ≤ i ∧ v = .int .i64 (j : Int) ∧ RowKit.Hid (Shuf A B d ee) ∧ RowKit.Hid (Ins ee A i j) ∧ RowKit.Hid (Cells wr' b off N ee) ∧ RowKit.Hid (Sort1 b w wr')) (fun v _ => (intOf v).toNat)
      case atStart => exact ⟨i, dd, by omega, by omega, rfl, hs, ins_start ht.out, hr, hw⟩
      case round =>
        clear hs ht hr hw
        obtain ⟨j, ee, h3, h4, rfl, hs, ht, hr, hw⟩ := hrel
        by_cases hgt : A < j
        · have hv := shuf_all (shuf_mono hs.out (Nat.zero_le A) hB) (fun z => z < 4294967296) (fun x _ hx => HD.out x hx)
          have ca := hr.out.cell j (by omega)
          have cb := hr.out.cell (j - 1) (by omega)
          have fa := hr.out.open_ j (by omega)
          have fb := hr.out.open_ (j - 1) (by omega)
          have v1 := hv j (by omega) (by omega)
          have v2 := hv (j - 1) (by omega) (by omega)
          have e1 : ((j : Int) - 1) = ((j - 1 : Nat) : Int) := by omega
          have e9 : ¬ j = j - 1 := by omega
          have e5 : (0 : Int) ≤ (j : Int) := by omega
          have e10 : IntKind.i64.wrap ((j - 1 : Nat) : Int) = ((j - 1 : Nat) : Int) := by rw [IntKind.wrap_i64]; omega
          have e6 : (0 : Int) ≤ ((j - 1 : Nat) : Int) := by omega
          have e7 : (j : Int) < (N : Int) := by omega
          have e8 : ((j - 1 : Nat) : Int) < (N : Int) := by omega
          by_cases hk : kk (ee j) < kk (ee (j - 1))
          · have hk' : ckk (ee j) (ee (j - 1)) < 0 := by rw [ckk_neg]; exact hk
            go_wp2
            go_quiet ((go_at_call 92; exact Calls.quiet_of_same (cmp_q _ _ v1 v2 _)))
            have hr2 := cells_drewN hr.out nq
            have hw2 := sort1_drewN hw.out nq
            clear ca cb fa fb hr hw
            generalize wr.drewN nq = w2 at hr2 hw2 ⊢
            have ca := hr2.cell j (by omega)
            have cb := hr2.cell (j - 1) (by omega)
            have fa := hr2.open_ j (by omega)
            have fb := hr2.open_ (j - 1) (by omega)
            have HR := hid hr2
            have HW := hid hw2
            clear hr2 hw2
            go_wp2
            go_region
            go_wp2
            refine ⟨⟨j - 1, swp ee j (j - 1), by omega, by omega, rfl, .step hs.out _ _ ⟨by omega, by omega⟩ ⟨by omega, by omega⟩, ins_swp ht.out hgt h4 hk, cells_drew (cells_swap HR.out j (j - 1) (by omega) (by omega)), sort1_drew (sort1_set (sort1_set HW.out _ _) _ _)⟩, by simp [intOf]; omega⟩
          · have hk' : decide (ckk (ee j) (ee (j - 1)) < 0) = false := decide_eq_false (by rw [ckk_neg]; exact hk)
            go_wp2
            go_quiet ((go_at_call 92; exact Calls.quiet_of_same (cmp_q _ _ v1 v2 _)))
            go_wp2
            refine ⟨⟨i + 1, ee, by omega, Or.inl (by omega), rfl, hs, ins_end ht.out h3 h4 (fun _ => by omega), cells_drewN hr.out _, sort1_drewN hw.out _⟩, by simp [intOf]; omega⟩
        · have hk' : decide ((A : Int) < (j : Int)) = false := decide_eq_false (by omega)
          go_wp2
          go_quiet (fail)
          go_wp2
          refine ⟨⟨i + 1, ee, by omega, Or.inl (by omega), rfl, hs, ins_end ht.out h3 h4 (fun _ => by omega), cells_drewN hr.out _, sort1_drewN hw.out _⟩, by simp [intOf]; omega⟩
    · go_wp2
      go_end0
      exact ⟨dd, ⟨rfl, hr.out, hw.out⟩, hs.out, srt_sub ht.out A B (Nat.le_refl _) (by omega)⟩
end Go.Proofs.Ytbenjfipbeikmaa
