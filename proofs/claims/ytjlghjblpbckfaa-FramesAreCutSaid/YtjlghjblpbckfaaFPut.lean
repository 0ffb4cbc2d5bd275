/-
  At and Put of a place in the frame.
-/
import Derived.Test.YtjlghjblpbckfaaFAt
namespace Go.Proofs.Ytjlghjblpbckfaa
open Go.RowKit Go.Shelf
attribute [local go_sem] run_store_float

/-- The boxes of At's loop. -/
structure ASt (w : World) (S : Nat) (g o n : Nat) (F : Nat → Nat) (P : Nat → Nat) (wr : World) : Prop where
  z : Blk wr (w.heap.size + 1) 42 zpix
  p : Blk wr S 42 (pixC P)
  be : Below w.heap.size w wr
  rd : Rd wr g o n F
theorem ASt.step {w wr : World} {S g o n : Nat} {F P : Nat → Nat} {k : Nat} (hk : k < 4) (hS : w.heap.size + 1 < S) (hg : g ≠ S) (h : ASt w S g o n F (fun j => if j < k then P j else 0) wr) :
    ASt w S g o n F (fun j => if j < k + 1 then P j else 0) (wr.setCell ⟨S, k, none⟩ (.float .f32 (P k))) := by
  refine ⟨h.z.far (by simp; omega) _, ?_, h.be.setCell (by simp; omega) _, fun i hi => ?_⟩
  · have := h.p.set_ k (.float .f32 (P k))
    rw [pixUp P k hk] at this
    exact this
  · rw [World.cell?_setCell_other wr ⟨S, k, none⟩ ⟨g, o + i, none⟩ _ (fun e => hg (by injection e with e1; exact e1.symm))]
    exact h.rd i hi

set_option maxRecDepth 100000 in
set_option maxHeartbeats 2000000 in
theorem at_in (X Y : Int) (p q n c i j : Nat) (A : Option Addr) (F : Nat → Nat) (w : World) (h1 : frmE X Y p q n = 0) (hi : i < p) (hj : j < q) (hnc : n ≤ c) (hcm : c ≤ maxLen) (hF : Src w A n F) :
    Calls Try.prog 26 #[frm X Y p q A n c, .int .i64 (X + i), .int .i64 (Y + j)] w (PixOut w 0 (fun k => cl (F (4 * (p * j + i) + k)))) := by
  have h2 : inP X Y p q (X + i) (Y + j) = true := inP_true.2 ⟨by omega, by omega, by omega, by omega⟩
  have HC : RowKit.Hid (∀ w, Calls Try.prog 66 #[frm X Y p q A n c, .int .i64 (X + i), .int .i64 (Y + j)] w fun e w' => e = .returned (.int .i64 0) ∧ Below w.heap.size w w') := hid fun w => by
    have := checkPixel_any X Y p q (X + i) (Y + j) n c A w h1
    rw [chkE, h2] at this
    exact this
  obtain ⟨hr1, hn4⟩ := frmE_zero h1
  obtain ⟨p1, p2, q1, q2, pq, x1, x2, y1, y2⟩ := regE_zero hr1
  have hn : n = 4 * (p * q) := by
    rw [Int.mul_assoc] at hn4
    have : ((4 * (p * q) : Nat) : Int) = 4 * ((p : Int) * (q : Int)) := by push_cast; rfl
    omega
  have hlt := idx_lt hi hj
  obtain ⟨g, o, rfl, hg, hrd⟩ := hF (by omega)
  obtain ⟨u, hu⟩ : ∃ u, u = 4 * (p * j + i) := ⟨_, rfl⟩
  have hun : u + 4 ≤ n := by omega
  have HSP : RowKit.Hid (∀ w, Calls Try.prog 67 #[frm X Y p q (some ⟨g, o, none⟩) n c, .int .i64 (X + i), .int .i64 (Y + j), .int .i64 1] w fun e w' => e = .returned (.slice (some ⟨g, o + u, none⟩) 4 (c - u)) ∧ Below w.heap.size w w') := hid fun w =>
    span_any X Y p q n c g o i j 1 u w hu (by omega) hj (by omega) hn hnc hcm (by omega) (by omega) (by omega) (by omega)
  have HRD : RowKit.Hid (∀ wr, Below w.heap.size w wr → Rd wr g o n F) := hid fun wr h => hrd.below h hg
  have HZ : RowKit.Hid (Blk ((w.alloc (.cells #[.int .i64 X, .int .i64 Y, .int .i64 p, .int .i64 q, .slice (some ⟨g, o, none⟩) n c] 39)).alloc (.cells zpix 42)) (w.heap.size + 1) 42 zpix) := Blk.new_at _ _ _ (by simp)
  have hfb : Blk ((w.alloc (.cells #[.int .i64 X, .int .i64 Y, .int .i64 p, .int .i64 q, .slice (some ⟨g, o, none⟩) n c] 39)).alloc (.cells zpix 42)) w.heap.size 39 #[.int .i64 X, .int .i64 Y, .int .i64 p, .int .i64 q, .slice (some ⟨g, o, none⟩) n c] := (Blk.new_at _ _ _ rfl).alloc _
  have HFB := hid hfb
  have HB : RowKit.Hid (Below w.heap.size w ((w.alloc (.cells #[.int .i64 X, .int .i64 Y, .int .i64 p, .int .i64 q, .slice (some ⟨g, o, none⟩) n c] 39)).alloc (.cells zpix 42))) := ((Below.refl _ _).alloc (Nat.le_refl _) _).alloc (by simp) _
  have HUN := hid hun
  have HG := hid hg
  rw [← hu]
  obtain ⟨U, hU⟩ : ∃ U : Int, X + i = U := ⟨_, rfl⟩
  obtain ⟨V, hV⟩ : ∃ V : Int, Y + j = V := ⟨_, rfl⟩
  rw [hU, hV] at HC HSP ⊢
  clear h1 h2 hr1 hn4 pq hn hlt hrd hu hU hV hfb hF hg hun hi hj
  go_enter Try.func26, Try.ntmps26
  go_wp2_with fail
  refine (HC.out _).mono ?_
  rintro e w1 ⟨rfl, hb⟩
  have HZ1 := hid (HZ.out.below hb HZ.out.lt)
  have hf1 := HFB.out.below hb HFB.out.lt
  have HB1 := hid (below_to HB.out hb)
  have f0 := hf1.cell 0
  have f1 := hf1.cell 1
  have f2 := hf1.cell 2
  have f3 := hf1.cell 3
  have f4 := hf1.cell 4
  simp at f0 f1 f2 f3 f4
  have lf := hf1.lt
  have HL1 := hid (show w.heap.size + 1 < w1.heap.size from HZ1.out.lt)
  have HGS := hid (show g < w1.heap.size from Nat.lt_of_lt_of_le HG.out HB1.out.size)
  clear hf1 hb
  go_wp2_with fail
  have HST := hid (show ASt w w1.heap.size g o n F (fun _ => 0) (w1.alloc (.cells zpix 42)) from ⟨HZ1.out.alloc _, Blk.new_at _ _ _ rfl, HB1.out.alloc HB1.out.size _, HRD.out _ (HB1.out.alloc HB1.out.size _)⟩)
  refine (HSP.out _).mono ?_
  rintro e w2 ⟨rfl, hb⟩
  generalize w1.heap.size = S at *
  have HS2 := hid (show ASt w S g o n F (fun j => if j < 0 then cl (F (u + j)) else 0) w2 from ⟨HST.out.z.below hb HST.out.z.lt, HST.out.p.below hb HST.out.p.lt, below_to HST.out.be hb, HRD.out _ (below_to HST.out.be hb)⟩)
  clear hb HST f0 f1 f2 f3 f4 lf
  go_wp2_with fail
  go_loopw [25] (fun i wr => ∃ k : Nat, k ≤ 4 ∧ i = .int .i64 k ∧ ASt w S g o n F (fun j => if j < k then cl (F (u + j)) else 0) wr) (fun i _ => 4 - (intOf i).toNat)
  case atStart => exact ⟨0, by omega, rfl, HS2.out⟩
  case round =>
    clear HS2
    obtain ⟨k, hk, rfl, hrel⟩ := hrel
    have HL := hid hrel
    by_cases hk4 : k < 4
    · have hsrc := hrel.rd (u + k) (by have := HUN.out; omega)
      rw [← Nat.add_assoc] at hsrc
      have fz := hrel.p.frozen k
      have pc := hrel.p.cell k
      rw [pixC_get _ k hk4] at pc
      have k1 : (0 : Int) ≤ (k : Int) := by omega
      have k2 : (k : Int) < 4 := by omega
      clear hrel
      go_wp2_with (go_at_call 68; refine (clean_any _ _).mono ?_; rintro e w' ⟨rfl, rfl⟩)
      go_roundw
      case rel => exact ⟨k + 1, by omega, by go_num, HL.out.step hk4 HL1.out (Nat.ne_of_lt HGS.out)⟩
      case measure => simp [intOf]; omega
    · have hk5 : k = 4 := by omega
      subst hk5
      have z0 := hrel.z.cell 0
      have z1 := hrel.z.cell 1
      have z2 := hrel.z.cell 2
      have z3 := hrel.z.cell 3
      have fz := fun i => hrel.z.frozen i
      have p0 := hrel.p.cell 0
      have p1 := hrel.p.cell 1
      have p2 := hrel.p.cell 2
      have p3 := hrel.p.cell 3
      simp at z0 z1 z2 z3 p0 p1 p2 p3
      have HBK := hid (hrel.z.set4 (.float .f32 (cl (F u))) (.float .f32 (cl (F (u + 1)))) (.float .f32 (cl (F (u + 2)))) (.float .f32 (cl (F (u + 3)))))
      clear hrel
      go_wp2_with fail
      refine bodyPost_ret (v := .tuple #[pix fun k => cl (F (u + k)), .int .i64 0]) (results_row_tmp rfl _ _ _ _ _ _ rfl rfl HBK.out Try.underlying42 rfl (by kernel_rfl)) rfl ⟨rfl, ?_⟩
      exact below_set4 HL.out.be (by omega) _ _ _ _
end Go.Proofs.Ytjlghjblpbckfaa
