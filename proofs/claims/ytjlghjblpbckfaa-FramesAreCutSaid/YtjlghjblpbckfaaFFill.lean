/-
  Fill, in the program.
-/
import Derived.Test.YtjlghjblpbckfaaFMix
namespace Go.Proofs.Ytjlghjblpbckfaa
open Go.RowKit Go.Shelf

theorem enters_fill1 (args : Array Value) (w : World) : (callFunc 64 args).run Try.prog w = .ok (.enter 64 args) w := enters_of Try.func64 (by kernel_rfl) rfl args w

abbrev pixC (P : Nat → Nat) : Array Value := #[.float .f32 (P 0), .float .f32 (P 1), .float .f32 (P 2), .float .f32 (P 3)]
theorem pixC_get (P : Nat → Nat) (k : Nat) (hk : k < 4) : (pixC P)[k]? = some (.float .f32 (P k)) := by
  have : k = 0 ∨ k = 1 ∨ k = 2 ∨ k = 3 := by omega
  rcases this with h | h | h | h <;> subst h <;> rfl

theorem fill1_any (x y : Int) (k bp : Nat) (P : Nat → Nat) (w : World) (hk : k < 4) (hbp : Blk w bp 42 (pixC P)) :
    Calls Try.prog 64 #[.int .i64 x, .int .i64 y, .int .i64 k, .pointer (some ⟨bp, 0, none⟩)] w (Gave w (cl (P k))) := by
  have ck := hbp.cell k
  rw [pixC_get _ _ hk] at ck
  have lp := hbp.lt
  have k1 : (0 : Int) ≤ (k : Int) := by omega
  have k2 : (k : Int) < 4 := by omega
  clear hbp
  go_enter Try.func64, Try.ntmps64
  go_wp2
  go_ret
  exact ⟨_, rfl, rfl, Below.refl _ _⟩

set_option maxRecDepth 100000 in
set_option maxHeartbeats 1000000 in
theorem fill_bad (x y a b : Int) (P : Nat → Nat) (w : World) (h : ¬ regE x y a b = 0) :
    Calls Try.prog 22 #[reg x y a b, pix P] w (ErrOut w (regE x y a b)) := by
  have z1 : (regE x y a b != 0) = true := by simp [h]
  clear h
  rw [pix_cells]
  go_enter Try.func22, Try.ntmps22
  go_wp2_with fail
  refine (checkRegion_any _ _ _ _ _).mono ?_
  rintro e w1 ⟨rfl, hb⟩
  have hr : Blk w1 (w.heap.size + 1 + 1) 39 zfrm := (Blk.new_at _ _ _ (by simp)).below hb (by simp)
  have HBE : RowKit.Hid (Below w.heap.size w w1) := ((((Below.refl _ _).alloc (Nat.le_refl _) _).alloc (by simp) _).alloc (by simp; omega) _).trans (hb.mono (by simp; omega))
  have z2 := hr.cell 0
  have z3 := hr.cell 1
  have z4 := hr.cell 2
  have z5 := hr.cell 3
  have z6 := hr.cell 4
  have fz := fun i => hr.frozen i
  simp at z2 z3 z4 z5 z6
  have hblk := hr.set5 (.int .i64 0) (.int .i64 0) (.int .i64 0) (.int .i64 0) (.slice none 0 0)
  have HBK := hid hblk
  clear hb hr hblk
  go_wp2
  refine bodyPost_ret (v := .tuple #[.agg zfrm, .int .i64 (regE x y a b)]) (results_row_tmp rfl _ _ _ _ _ _ rfl rfl HBK.out Try.underlying39 rfl (by kernel_rfl)) rfl ?_
  exact ⟨rfl, below_set5 HBE.out (by omega) _ _ _ _ _⟩

set_option maxRecDepth 100000 in
set_option maxHeartbeats 2000000 in
theorem fill_ok (X Y : Int) (p q n : Nat) (P : Nat → Nat) (w : World) (h : regE X Y p q = 0) (hn : n = 4 * (p * q)) :
    Calls Try.prog 22 #[reg X Y p q, pix P] w (FramedOk w X Y p q n fun t => cl (P (t % 4))) := by
  have z1 : (regE X Y p q != 0) = false := by simp [h]
  obtain ⟨a1, a2, b1, b2, ab, x1, x2, y1, y2⟩ := regE_zero h
  have hmi : ((p * q : Nat) : Int) = (p : Int) * (q : Int) := by push_cast; rfl
  have hn2 : n ≤ 65536 := by omega
  clear h
  obtain ⟨w3, hw3⟩ : ∃ w3, w3 = (((w.alloc (.cells #[.int .i64 X, .int .i64 Y, .int .i64 p, .int .i64 q] 23)).alloc (.cells (pixC P) 42)).alloc (.cells zfrm 39)) := ⟨_, rfl⟩
  have hg : Blk w3 w.heap.size 23 #[.int .i64 X, .int .i64 Y, .int .i64 p, .int .i64 q] := by rw [hw3]; exact ((Blk.new_at _ _ _ rfl).alloc _).alloc _
  have hp : Blk w3 (w.heap.size + 1) 42 (pixC P) := by rw [hw3]; exact (Blk.new_at _ _ _ (by simp)).alloc _
  have hr : Blk w3 (w.heap.size + 1 + 1) 39 zfrm := by rw [hw3]; exact Blk.new_at _ _ _ (by simp)
  have hbel : Below w.heap.size w w3 := by rw [hw3]; exact (((Below.refl _ _).alloc (Nat.le_refl _) _).alloc (by simp) _).alloc (by simp; omega) _
  have HG := hid hg
  have HP := hid hp
  have HR := hid hr
  have HBE := hid hbel
  have HW3 := hid hw3
  have HBU : RowKit.Hid (∀ w1, Below w3.heap.size w3 w1 → Calls Try.prog 63 #[reg X Y p q, .func (.func 64) #[] #[.pointer (some ⟨w.heap.size + 1, 0, none⟩)]] w1 (Framed w1 X Y p q n (gI (fun _ _ k => cl (P k)) p))) := by
    intro w1 hb1
    refine build_any 64 #[.pointer (some ⟨w.heap.size + 1, 0, none⟩)] enters_fill1 X Y p q n (fun _ _ k => cl (P k)) w1 hn hn2 (by omega) (by omega) (by omega) (by omega) (by omega) (by omega) (by omega) (by omega) ?_
    intro i j k w2 hi hj hk hb2
    have hb := hb1.trans (hb2.mono hb1.size)
    exact fill1_any (X + i) (Y + j) k (w.heap.size + 1) P w2 hk (hp.below hb hp.lt)
  clear hg hp hr hbel hw3 hn
  have hmf : ∀ (fn : Fn) (first cap : Array Value) (w : World), (Instr.makeFunc fn first cap).run Try.prog w = .ok (.func fn first cap) w := fun _ _ _ _ => rfl
  rw [pix_cells]
  go_enter Try.func22, Try.ntmps22
  go_wp2_with fail
  rw [← HW3.out]
  refine (checkRegion_any _ _ _ _ _).mono ?_
  rintro e w1 ⟨rfl, hb⟩
  have hg1 := HG.out.below hb HG.out.lt
  have g0 := hg1.cell 0
  have g1 := hg1.cell 1
  have g2 := hg1.cell 2
  have g3 := hg1.cell 3
  simp at g0 g1 g2 g3
  have HB := hid hb
  clear hb hg1
  go_wp2_with fail
  refine (HBU.out _ HB.out).mono ?_
  rintro e w4 ⟨b, c', rfl, q1, q2, q3, q4, q5, q6⟩
  have hr4 := (HR.out.below HB.out HR.out.lt).below q6 (HR.out.below HB.out HR.out.lt).lt
  have z2 := hr4.cell 0
  have z3 := hr4.cell 1
  have z4 := hr4.cell 2
  have z5 := hr4.cell 3
  have z6 := hr4.cell 4
  have fz := fun i => hr4.frozen i
  simp at z2 z3 z4 z5 z6
  have hblk := hr4.set5 (.int .i64 X) (.int .i64 Y) (.int .i64 p) (.int .i64 q) (.slice (some ⟨b, 0, none⟩) n c')
  have HBK := hid hblk
  have HQ := hid (And.intro q5 (below_to (below_to HBE.out HB.out) q6))
  have hs3 := HR.out.lt
  have hs4 := HB.out.size
  clear hr4 hblk q5 q6
  go_wp2
  refine bodyPost_ret (v := .tuple #[frm X Y p q (some ⟨b, 0, none⟩) n c', .int .i64 0]) (results_row_tmp rfl _ _ _ _ _ _ rfl rfl HBK.out Try.underlying39 rfl (by kernel_rfl)) rfl ?_
  refine ⟨b, c', rfl, q1, q2, by omega, by rw [size_set5]; exact q4, ?_, below_set5 HQ.out.2 (by omega) _ _ _ _ _⟩
  intro i hi
  exact HQ.out.1.far5 (g := w.heap.size + 1 + 1) (by omega) (.int .i64 X) (.int .i64 Y) (.int .i64 p) (.int .i64 q) (.slice (some ⟨b, 0, none⟩) n c') i hi
end Go.Proofs.Ytjlghjblpbckfaa
