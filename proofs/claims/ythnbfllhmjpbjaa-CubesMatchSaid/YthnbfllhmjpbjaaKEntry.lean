/-
  Cubes: an entry by its place, in the program.
-/
import Derived.Test.YthnbfllhmjpbjaaKTop
namespace Go.Proofs.Ythnbfllhmjpbjaa
open Go.RowKit Go.Shelf
attribute [local go_sem] run_store_float

/-- What Entry hands back. -/
def EntR (f : Nat → Nat) (x : Int) (w : World) (e : Ending) (w' : World) : Prop := e = .returned (.tuple #[arr f, .int .i64 x]) ∧ Below w.heap.size w w'
/-- One of three numbers. -/
def co (i j k : Int) (r : Nat) : Int := if r = 0 then i else if r = 1 then j else k
theorem run_index_int (i j k : Int) (r : Nat) (hr : r < 3) (w : World) : (Instr.index 94 (.agg #[.int .i64 i, .int .i64 j, .int .i64 k]) (.int .i64 (r : Int))).run Try.prog w = .ok (.int .i64 (co i j k r)) w := by
  have : r = 0 ∨ r = 1 ∨ r = 2 := by omega
  rcases this with h | h | h <;> subst h <;> simp [Instr.index, run_underlying Try.underlying94, asIntOf, go_sem, co]

/-- What lies there when Entry has checked. -/
structure ERel0 (S : Int) (L H : Nat) (A : Option Addr) (n c : Nat) (w wr : World) : Prop where
  b0 : Blk wr w.heap.size 25 #[.int .i64 S, .float .f32 L, .float .f32 H, .slice A n c]
  b1 : Blk wr (w.heap.size + 1) 30 zarr
  be : Below w.heap.size w wr
theorem ERel0.below {S : Int} {L H : Nat} {A : Option Addr} {n c : Nat} {w wr w1 : World} (h : ERel0 S L H A n c w wr) (hb : Below wr.heap.size wr w1) : ERel0 S L H A n c w w1 :=
  ⟨h.b0.below hb h.b0.lt, h.b1.below hb h.b1.lt, below_to h.be (hb.mono (Nat.le_refl _))⟩
theorem erel0 (S : Int) (L H : Nat) (A : Option Addr) (n c : Nat) (w : World) : ERel0 S L H A n c w ((w.alloc (.cells #[.int .i64 S, .float .f32 L, .float .f32 H, .slice A n c] 25)).alloc (.cells zarr 30)) :=
  ⟨(Blk.new_at _ _ _ rfl).alloc _, Blk.new_at _ _ _ (by simp), ((Below.refl _ _).alloc (Nat.le_refl _) _).alloc (by simp) _⟩

theorem ERel0.stored {S : Int} {L H : Nat} {A : Option Addr} {n c : Nat} {w wr : World} (h : ERel0 S L H A n c w wr) (f : Nat → Nat) :
    Blk (((wr.setCell ⟨w.heap.size + 1, 0, none⟩ (.float .f32 (f 0))).setCell ⟨w.heap.size + 1, 1, none⟩ (.float .f32 (f 1))).setCell ⟨w.heap.size + 1, 2, none⟩ (.float .f32 (f 2))) (w.heap.size + 1) 30 (arrA f) ∧
      Below w.heap.size w (((wr.setCell ⟨w.heap.size + 1, 0, none⟩ (.float .f32 (f 0))).setCell ⟨w.heap.size + 1, 1, none⟩ (.float .f32 (f 1))).setCell ⟨w.heap.size + 1, 2, none⟩ (.float .f32 (f 2))) :=
  ⟨h.b1.set3 _ _ _, ((h.be.setCell (p := ⟨w.heap.size + 1, 0, none⟩) (by simp) _).setCell (p := ⟨w.heap.size + 1, 1, none⟩) (by simp) _).setCell (p := ⟨w.heap.size + 1, 2, none⟩) (by simp) _⟩

set_option maxRecDepth 100000 in
set_option maxHeartbeats 2000000 in
theorem entryP_bad (S i j k : Int) (L H : Nat) (A : Option Addr) (n c : Nat) (w : World) (hC : (cubE S L H n != 0) = true) :
    Calls Try.prog 11 #[cub S L H A n c, .int .i64 i, .int .i64 j, .int .i64 k] w (EntR (fun _ => 0) (cubE S L H n) w) := by
  go_enter Try.func11, Try.ntmps11
  go_upto_region 1 with fail
  have h0 := erel0 S L H A n c w
  obtain ⟨W, hW⟩ : ∃ W, (w.alloc (.cells #[.int .i64 S, .float .f32 L, .float .f32 H, .slice A n c] 25)).alloc (.cells zarr 30) = W := ⟨_, rfl⟩
  rw [hW] at h0 ⊢
  clear hW
  have c0 := h0.b0.cell 0
  have c1 := h0.b0.cell 1
  have c2 := h0.b0.cell 2
  have c3 := h0.b0.cell 3
  simp at c0 c1 c2 c3
  have H0 := hid h0
  clear h0
  go_upto_region 2 with (go_at_call 16; refine (check_any _ _ _ _ _ _ _).mono ?_; rintro e w' ⟨rfl, hb⟩)
  have H1 := hid (H0.out.below hb)
  clear hb H0 c0 c1 c2 c3
  have z0 := H1.out.b1.cell 0
  have z1 := H1.out.b1.cell 1
  have z2 := H1.out.b1.cell 2
  have f0 := H1.out.b1.frozen 0
  have f1 := H1.out.b1.frozen 1
  have f2 := H1.out.b1.frozen 2
  simp at z0 z1 z2
  go_wp2_with fail
  obtain ⟨hblk, be⟩ := H1.out.stored (fun _ => 0)
  exact bodyPost_ret (v := .tuple #[arr fun _ => 0, .int .i64 (cubE S L H n)]) (results_row_tmp rfl _ _ _ _ _ _ rfl rfl hblk Try.underlying30 rfl (by kernel_rfl)) rfl ⟨rfl, be⟩

/-- Is the place one that a cube of s entries a side has? -/
def onP (s i j k : Int) : Prop := ∀ r, r < 3 → 0 ≤ co i j k r ∧ co i j k r < s

theorem entry1_any (k : Int) (v : Nat) (w : World) : Calls Try.prog 67 #[.int .i64 k, .float .f32 v] w fun e w' => e = .returned (.float .f32 v) ∧ w = w' := by
  go_enter Try.func67, Try.ntmps67
  go_wp2
  go_ret
  exact ⟨rfl, rfl⟩

set_option maxRecDepth 100000 in
set_option maxHeartbeats 2000000 in
theorem entryP_far (s L H n c : Nat) (i j k : Int) (A : Option Addr) (w : World) (hC : CubOk s L H n) (hP : ¬ onP s i j k) :
    Calls Try.prog 11 #[cub s L H A n c, .int .i64 i, .int .i64 j, .int .i64 k] w (EntR (fun _ => 0) 5 w) := by
  have z1 : (cubE s L H n != 0) = false := by rw [hC.zero]; rfl
  have z2 : cubE s L H n = 0 := hC.zero
  clear hC
  go_enter Try.func11, Try.ntmps11
  go_upto_region 1 with fail
  have h0 := erel0 s L H A n c w
  obtain ⟨W, hW⟩ : ∃ W, (w.alloc (.cells #[.int .i64 s, .float .f32 L, .float .f32 H, .slice A n c] 25)).alloc (.cells zarr 30) = W := ⟨_, rfl⟩
  rw [hW] at h0 ⊢
  clear hW
  have c0 := h0.b0.cell 0
  have c1 := h0.b0.cell 1
  have c2 := h0.b0.cell 2
  have c3 := h0.b0.cell 3
  simp at c0 c1 c2 c3
  have H0 := hid h0
  clear h0
  go_upto_region 2 with (go_at_call 16; refine (check_any _ _ _ _ _ _ _).mono ?_; rintro e w' ⟨rfl, hb⟩)
  have H1 := hid (H0.out.below hb)
  clear hb H0 c0 c1 c2 c3
  go_wp2_with fail
  have h2 := H1.out.below ((Below.refl _ _).alloc (Nat.le_refl _) (.cells #[.int .i64 i, .int .i64 j, .int .i64 k] 94))
  have b2 : Blk (w'.alloc (.cells #[.int .i64 i, .int .i64 j, .int .i64 k] 94)) w'.heap.size 94 #[.int .i64 i, .int .i64 j, .int .i64 k] := Blk.new _ _ _
  obtain ⟨W2, hW2⟩ : ∃ W2, w'.alloc (.cells #[.int .i64 i, .int .i64 j, .int .i64 k] 94) = W2 := ⟨_, rfl⟩
  rw [hW2] at h2 b2 ⊢
  clear hW2
  have c0 := h2.b0.cell 0
  have a0 := b2.cell 0
  have a1 := b2.cell 1
  have a2 := b2.cell 2
  simp at c0 a0 a1 a2
  have H2 := hid h2
  clear h2 b2 H1
  have z0 := H2.out.b1.cell 0
  have z1 := H2.out.b1.cell 1
  have z2 := H2.out.b1.cell 2
  have f0 := H2.out.b1.frozen 0
  have f1 := H2.out.b1.frozen 1
  have f2 := H2.out.b1.frozen 2
  simp at z0 z1 z2
  go_loopw [25] (fun v wr => ∃ r : Nat, r ≤ 3 ∧ v = .int .i64 r ∧ wr = W2 ∧ ∀ q, q < r → 0 ≤ co i j k q ∧ co i j k q < s) (fun v _ => 3 - (intOf v).toNat)
  case atStart => exact ⟨0, by omega, rfl, rfl, fun q hq => by omega⟩
  case round =>
    obtain ⟨r, hr, rfl, rfl, hq⟩ := hrel
    have HQ := hid hq
    clear hq
    by_cases hlr : r < 3
    · have hix := run_index_int i j k r hlr
      have k1 : (0 : Int) ≤ (r : Int) := by omega
      have k2 : (r : Int) < 3 := by omega
      obtain ⟨z, hz⟩ : ∃ z, co i j k r = z := ⟨_, rfl⟩
      rw [hz] at hix
      have HZ := hid hz
      clear hz
      by_cases y1 : z < 0
      · go_wp2
        obtain ⟨hblk, be⟩ := H2.out.stored (fun _ => 0)
        exact bodyPost_ret (v := .tuple #[arr fun _ => 0, .int .i64 5]) (results_row_tmp rfl _ _ _ _ _ _ rfl rfl hblk Try.underlying30 rfl (by kernel_rfl)) rfl ⟨rfl, be⟩
      · by_cases y2 : z < (s : Int)
        · go_wp2
          go_roundw
          case rel =>
            refine ⟨r + 1, by omega, by go_num, trivial, fun q hq => ?_⟩
            by_cases e : q = r
            · subst e; rw [HZ.out]; omega
            · exact HQ.out q (by omega)
          case measure => simp [intOf]; omega
        · go_wp2
          obtain ⟨hblk, be⟩ := H2.out.stored (fun _ => 0)
          exact bodyPost_ret (v := .tuple #[arr fun _ => 0, .int .i64 5]) (results_row_tmp rfl _ _ _ _ _ _ rfl rfl hblk Try.underlying30 rfl (by kernel_rfl)) rfl ⟨rfl, be⟩
    · obtain rfl : r = 3 := by omega
      exact absurd HQ.out hP

set_option maxRecDepth 100000 in
set_option maxHeartbeats 2000000 in
theorem entryP_ok (s L H n c i j k : Nat) (A : Option Addr) (F : Nat → Nat) (w : World) (hC : CubOk s L H n) (hi : i < s) (hj : j < s) (hk : k < s) (hnc : n ≤ c) (hF : Src w A n F) :
    Calls Try.prog 11 #[cub s L H A n c, .int .i64 i, .int .i64 j, .int .i64 k] w (EntR (fun m => cl (F (eIx s i j k + m))) 0 w) := by
  have z1 : (cubE s L H n != 0) = false := by rw [hC.zero]; rfl
  have z2 : cubE s L H n = 0 := hC.zero
  have HC := hid hC
  clear hC
  have HF := hid hF
  clear hF
  go_enter Try.func11, Try.ntmps11
  go_upto_region 1 with fail
  have h0 := erel0 s L H A n c w
  obtain ⟨W, hW⟩ : ∃ W, (w.alloc (.cells #[.int .i64 s, .float .f32 L, .float .f32 H, .slice A n c] 25)).alloc (.cells zarr 30) = W := ⟨_, rfl⟩
  rw [hW] at h0 ⊢
  clear hW
  have c0 := h0.b0.cell 0
  have c1 := h0.b0.cell 1
  have c2 := h0.b0.cell 2
  have c3 := h0.b0.cell 3
  simp at c0 c1 c2 c3
  have H0 := hid h0
  clear h0
  go_upto_region 2 with (go_at_call 16; refine (check_any _ _ _ _ _ _ _).mono ?_; rintro e w' ⟨rfl, hb⟩)
  have H1 := hid (H0.out.below hb)
  clear hb H0 c0 c1 c2 c3
  go_wp2_with fail
  have h2 := H1.out.below ((Below.refl _ _).alloc (Nat.le_refl _) (.cells #[.int .i64 i, .int .i64 j, .int .i64 k] 94))
  have b2 : Blk (w'.alloc (.cells #[.int .i64 i, .int .i64 j, .int .i64 k] 94)) w'.heap.size 94 #[.int .i64 i, .int .i64 j, .int .i64 k] := Blk.new _ _ _
  obtain ⟨W2, hW2⟩ : ∃ W2, w'.alloc (.cells #[.int .i64 i, .int .i64 j, .int .i64 k] 94) = W2 := ⟨_, rfl⟩
  rw [hW2] at h2 b2 ⊢
  clear hW2
  have c0 := h2.b0.cell 0
  have c1 := h2.b0.cell 1
  have c2 := h2.b0.cell 2
  have c3 := h2.b0.cell 3
  have a0 := b2.cell 0
  have a1 := b2.cell 1
  have a2 := b2.cell 2
  simp at c0 c1 c2 c3 a0 a1 a2
  have H2 := hid h2
  clear h2 b2 H1
  have hco : ∀ r, r < 3 → 0 ≤ co i j k r ∧ co i j k r < (s : Int) := by
    intro r hr
    have : r = 0 ∨ r = 1 ∨ r = 2 := by omega
    rcases this with h | h | h <;> subst h <;> simp [co] <;> omega
  go_loopw [25] (fun v wr => ∃ r : Nat, r ≤ 3 ∧ v = .int .i64 r ∧ wr = W2) (fun v _ => 3 - (intOf v).toNat)
  case atStart => exact ⟨0, by omega, rfl, rfl⟩
  case round =>
    obtain ⟨r, hr, rfl, rfl⟩ := hrel
    by_cases hlr : r < 3
    · have hix := run_index_int i j k r hlr
      obtain ⟨g1, g2⟩ := hco r hlr
      have k1 : (0 : Int) ≤ (r : Int) := by omega
      have k2 : (r : Int) < 3 := by omega
      generalize co (i : Int) j k r = z at *
      go_wp2
      go_roundw
      case rel => exact ⟨r + 1, by omega, by go_num, trivial⟩
      case measure => simp [intOf]; omega
    · obtain rfl : r = 3 := by omega
      go_wp2_with fail
      refine (entry_any s L H n c i j k A F _ HC.out hi hj hk hnc (HF.out.below H2.out.be)).mono ?_
      rintro e w3 ⟨rfl, hb3⟩
      have H3 := hid (H2.out.below hb3)
      clear hb3 H2 c0 c1 c2 c3 a0 a1 a2
      go_wp2_with fail
      refine (each_any 67 #[] enters_entry1 (fun m => F (eIx s i j k + m)) (fun m => cl (F (eIx s i j k + m))) _ (fun q w5 _ _ => (entry1_any q _ w5).mono (by rintro e w6 ⟨rfl, rfl⟩; exact ⟨_, rfl, rfl, Below.refl _ _⟩))).mono ?_
      rintro e w4 ⟨rfl, hb4⟩
      have H4 := hid (H3.out.below hb4)
      clear hb4 H3
      have z0 := H4.out.b1.cell 0
      have z1 := H4.out.b1.cell 1
      have z2 := H4.out.b1.cell 2
      have f0 := H4.out.b1.frozen 0
      have f1 := H4.out.b1.frozen 1
      have f2 := H4.out.b1.frozen 2
      simp at z0 z1 z2
      go_wp2_with fail
      obtain ⟨hblk, be⟩ := H4.out.stored (fun m => cl (F (eIx s i j k + m)))
      exact bodyPost_ret (v := .tuple #[arr fun m => cl (F (eIx s i j k + m)), .int .i64 0]) (results_row_tmp rfl _ _ _ _ _ _ rfl rfl hblk Try.underlying30 rfl (by kernel_rfl)) rfl ⟨rfl, be⟩

end Go.Proofs.Ythnbfllhmjpbjaa
