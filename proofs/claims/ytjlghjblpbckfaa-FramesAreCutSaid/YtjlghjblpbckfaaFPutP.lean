/-
  Put, in the program.
-/
import Derived.Test.YtjlghjblpbckfaaFPut
import Derived.Test.YtjlghjblpbckfaaFSpan
namespace Go.Proofs.Ytjlghjblpbckfaa
open Go.RowKit Go.Shelf
attribute [local go_sem] run_store_float

set_option maxRecDepth 100000 in
set_option maxHeartbeats 2000000 in
theorem put_out (X Y p q x y : Int) (n c : Nat) (A : Option Addr) (P : Nat → Nat) (w : World) (h1 : frmE X Y p q n = 0) (h2 : inP X Y p q x y = false) :
    Calls Try.prog 27 #[frm X Y p q A n c, .int .i64 x, .int .i64 y, pix P] w (ErrOut w 5) := by
  have HC : RowKit.Hid (∀ w, Calls Try.prog 66 #[frm X Y p q A n c, .int .i64 x, .int .i64 y] w fun e w' => e = .returned (.int .i64 5) ∧ Below w.heap.size w w') := hid fun w => by
    have := checkPixel_any X Y p q x y n c A w h1
    rw [chkE, h2] at this
    exact this
  rw [pix_cells]
  have HZ : RowKit.Hid (Blk (((w.alloc (.cells #[.int .i64 X, .int .i64 Y, .int .i64 p, .int .i64 q, .slice A n c] 39)).alloc (.cells (pixC P) 42)).alloc (.cells zfrm 39)) (w.heap.size + 1 + 1) 39 zfrm) := Blk.new_at _ _ _ (by simp)
  have HB : RowKit.Hid (Below w.heap.size w (((w.alloc (.cells #[.int .i64 X, .int .i64 Y, .int .i64 p, .int .i64 q, .slice A n c] 39)).alloc (.cells (pixC P) 42)).alloc (.cells zfrm 39))) := (((Below.refl _ _).alloc (Nat.le_refl _) _).alloc (by simp) _).alloc (by simp; omega) _
  clear h1 h2
  go_enter Try.func27, Try.ntmps27
  go_wp2_with fail
  refine (HC.out _).mono ?_
  rintro e w1 ⟨rfl, hb⟩
  have hz := HZ.out.below hb HZ.out.lt
  have z0 := hz.cell 0
  have z1 := hz.cell 1
  have z2 := hz.cell 2
  have z3 := hz.cell 3
  have z4 := hz.cell 4
  have fz := fun i => hz.frozen i
  simp at z0 z1 z2 z3 z4
  have HBK := hid (hz.set5 (.int .i64 0) (.int .i64 0) (.int .i64 0) (.int .i64 0) (.slice none 0 0))
  have HE := hid (below_to HB.out hb)
  clear hz hb
  go_wp2_with fail
  refine bodyPost_ret (v := .tuple #[.agg zfrm, .int .i64 5]) (results_row_tmp rfl _ _ _ _ _ _ rfl rfl HBK.out Try.underlying39 rfl (by kernel_rfl)) rfl ⟨rfl, ?_⟩
  exact below_set5 HE.out (by omega) _ _ _ _ _

/-- The boxes of Put's loop. -/
structure PuSt (w : World) (GB S n : Nat) (gcs : Array Value) (H : Nat → Nat) (wr : World) : Prop where
  row : wr.rowIs S 40 n (fun t => .float .f32 (H t))
  z : Blk wr (w.heap.size + 1 + 1) 39 zfrm
  g : Blk wr GB 39 gcs
  be : Below w.heap.size w wr
theorem PuSt.step {w wr : World} {GB S n : Nat} {gcs : Array Value} {f v : Nat → Nat} {base s : Nat} (hS : w.heap.size + 1 + 1 < S) (hG : GB ≠ S) (h : PuSt w GB S n gcs (rowUp f base s v) wr) :
    PuSt w GB S n gcs (rowUp f base (s + 1) v) (wr.setCell ⟨S, base + s, none⟩ (.float .f32 (v s))) := by
  refine ⟨World.rowIs.congr (h.row.set (base + s) _) (fun i _ => ?_), h.z.far (by simp; omega) _, h.g.far (by simpa using hG) _, h.be.setCell (by simp; omega) _⟩
  by_cases hik : i = base + s
  · subst hik; simp [rowUp]
  · unfold rowUp
    by_cases hb : base ≤ i ∧ i < base + s
    · simp [hik, hb, show base ≤ i ∧ i < base + (s + 1) by omega]
    · simp [hik, hb, show ¬ (base ≤ i ∧ i < base + (s + 1)) by omega]

set_option maxRecDepth 100000 in
set_option maxHeartbeats 2000000 in
theorem put_in (X Y : Int) (p q n c i j : Nat) (A : Option Addr) (F P : Nat → Nat) (w : World) (h1 : frmE X Y p q n = 0) (hi : i < p) (hj : j < q) (hF : Src w A n F) :
    Calls Try.prog 27 #[frm X Y p q A n c, .int .i64 (X + i), .int .i64 (Y + j), pix P] w (FramedOk w X Y p q n (rowUp (fun t => cl (F t)) (4 * (p * j + i)) 4 (fun s => cl (P s)))) := by
  have h2 : inP X Y p q (X + i) (Y + j) = true := inP_true.2 ⟨by omega, by omega, by omega, by omega⟩
  have HC : RowKit.Hid (∀ w, Calls Try.prog 66 #[frm X Y p q A n c, .int .i64 (X + i), .int .i64 (Y + j)] w fun e w' => e = .returned (.int .i64 0) ∧ Below w.heap.size w w') := hid fun w => by
    have := checkPixel_any X Y p q (X + i) (Y + j) n c A w h1
    rw [chkE, h2] at this
    exact this
  obtain ⟨hr1, hn4⟩ := frmE_zero h1
  obtain ⟨p1, p2, q1, q2, pq, x1, x2, y1, y2⟩ := regE_zero hr1
  have hn : n = 4 * (p * q) := by
    rw [Int.mul_assoc] at hn4
    have : ((4 * (p * q) : Nat) : Int) = 4 * ((p : Int) * (q : Int)) := by push_cast; rfl
    omega
  have hn2 : n ≤ 65536 := by rw [Int.mul_assoc] at hn4; omega
  have hlt := idx_lt hi hj
  obtain ⟨u, hu⟩ : ∃ u, u = 4 * (p * j + i) := ⟨_, rfl⟩
  have hun : u + 4 ≤ n := by omega
  have HSP : RowKit.Hid (∀ S w, Calls Try.prog 67 #[frm X Y p q (some ⟨S, 0, none⟩) n n, .int .i64 (X + i), .int .i64 (Y + j), .int .i64 1] w fun e w' => e = .returned (.slice (some ⟨S, u, none⟩) 4 (n - u)) ∧ Below w.heap.size w w') := hid fun S w => by
    have := span_any X Y p q n n S 0 i j 1 u w hu (by omega) hj (by omega) hn (Nat.le_refl _) (by unfold maxLen; omega) (by omega) (by omega) (by omega) (by omega)
    rw [Nat.zero_add] at this
    exact this
  have HCL : RowKit.Hid (∀ w1, Below w.heap.size w w1 → Calls Try.prog 69 #[frm X Y p q A n c] w1 (FRow w1 X Y p q n fun t => cl (F t))) := hid fun w1 h => cleaned_any X Y p q n c A F w1 hn2 (hF.below h)
  have hz : Blk (((w.alloc (.cells #[.int .i64 X, .int .i64 Y, .int .i64 p, .int .i64 q, .slice A n c] 39)).alloc (.cells (pixC P) 42)).alloc (.cells zfrm 39)) (w.heap.size + 1 + 1) 39 zfrm := Blk.new_at _ _ _ (by simp)
  have hfb : Blk (((w.alloc (.cells #[.int .i64 X, .int .i64 Y, .int .i64 p, .int .i64 q, .slice A n c] 39)).alloc (.cells (pixC P) 42)).alloc (.cells zfrm 39)) w.heap.size 39 #[.int .i64 X, .int .i64 Y, .int .i64 p, .int .i64 q, .slice A n c] := ((Blk.new_at _ _ _ rfl).alloc _).alloc _
  have hpb : Blk (((w.alloc (.cells #[.int .i64 X, .int .i64 Y, .int .i64 p, .int .i64 q, .slice A n c] 39)).alloc (.cells (pixC P) 42)).alloc (.cells zfrm 39)) (w.heap.size + 1) 42 (pixC P) := (Blk.new_at _ _ _ (by simp)).alloc _
  have HZ := hid hz
  have HFB := hid hfb
  have HPB := hid hpb
  have HB : RowKit.Hid (Below w.heap.size w (((w.alloc (.cells #[.int .i64 X, .int .i64 Y, .int .i64 p, .int .i64 q, .slice A n c] 39)).alloc (.cells (pixC P) 42)).alloc (.cells zfrm 39))) := (((Below.refl _ _).alloc (Nat.le_refl _) _).alloc (by simp) _).alloc (by simp; omega) _
  have HUN := hid hun
  have HN2 := hid hn2
  have u2 : u ≤ 65536 := by omega
  rw [← hu, pix_cells]
  obtain ⟨U, hU⟩ : ∃ U : Int, X + i = U := ⟨_, rfl⟩
  obtain ⟨V, hV⟩ : ∃ V : Int, Y + j = V := ⟨_, rfl⟩
  rw [hU, hV] at HC HSP ⊢
  clear h1 h2 hr1 hn4 pq hn hlt hu hU hV hfb hpb hz hF hun hi hj hn2
  go_enter Try.func27, Try.ntmps27
  go_wp2_with fail
  refine (HC.out _).mono ?_
  rintro e w1 ⟨rfl, hb⟩
  have HZ1 := hid (HZ.out.below hb HZ.out.lt)
  have hf1 := HFB.out.below hb HFB.out.lt
  have HP1 := hid (HPB.out.below hb HPB.out.lt)
  have HB1 := hid (below_to HB.out hb)
  have f0 := hf1.cell 0
  have f1 := hf1.cell 1
  have f2 := hf1.cell 2
  have f3 := hf1.cell 3
  have f4 := hf1.cell 4
  simp at f0 f1 f2 f3 f4
  have lf := hf1.lt
  clear hf1 hb
  go_wp2_with fail
  refine (HCL.out _ HB1.out).mono ?_
  rintro e w2 ⟨S, rfl, hS, hrow, hb⟩
  have HZ2 := hid (HZ1.out.below hb HZ1.out.lt)
  have HP2 := hid (HP1.out.below hb HP1.out.lt)
  have HB2 := hid (below_to HB1.out hb)
  have HROW := hid hrow
  have HSZ := hid (show w.heap.size + 1 + 1 < S from Nat.lt_of_lt_of_le HZ1.out.lt hS)
  have HSL := hid hrow.lt
  clear hb hS hrow f0 f1 f2 f3 f4 lf
  go_wp2_with fail
  have hal : Below w2.heap.size w2 (w2.alloc (.cells #[.int .i64 X, .int .i64 Y, .int .i64 p, .int .i64 q, .slice (some ⟨S, 0, none⟩) n n] 39)) := (Below.refl _ _).alloc (Nat.le_refl _) _
  have hgb : Blk (w2.alloc (.cells #[.int .i64 X, .int .i64 Y, .int .i64 p, .int .i64 q, .slice (some ⟨S, 0, none⟩) n n] 39)) w2.heap.size 39 #[.int .i64 X, .int .i64 Y, .int .i64 p, .int .i64 q, .slice (some ⟨S, 0, none⟩) n n] := Blk.new_at _ _ _ rfl
  have hpa := HP2.out.below hal HP2.out.lt
  have hza := HZ2.out.below hal HZ2.out.lt
  have hra := rowIs_below HROW.out hal HSL.out
  refine (HSP.out S _).mono ?_
  rintro e w3 ⟨rfl, hb⟩
  have hp3 := hpa.below hb hpa.lt
  have p0 := hp3.cell 0
  have p1 := hp3.cell 1
  have p2 := hp3.cell 2
  have p3 := hp3.cell 3
  simp at p0 p1 p2 p3
  have HS3 := hid (show PuSt w w2.heap.size S n #[.int .i64 X, .int .i64 Y, .int .i64 p, .int .i64 q, .slice (some ⟨S, 0, none⟩) n n] (rowUp (fun t => cl (F t)) u 0 (fun s => cl (P s))) w3 from
    ⟨by rw [rowUp_zero]; exact rowIs_below hra hb hra.lt, hza.below hb hza.lt, hgb.below hb hgb.lt, below_to (below_to HB2.out hal) hb⟩)
  have HGB := hid (show w2.heap.size ≠ S from fun e => by have := HSL.out; omega)
  have HGZ := hid (show w.heap.size + 1 + 1 < w2.heap.size from HZ2.out.lt)
  have lp := hp3.lt
  clear hal hgb hpa hza hra hb hp3 HROW
  generalize w2.heap.size = GB at *
  go_wp2_with fail
  go_loopw [30] (fun i wr => ∃ k : Nat, k ≤ 4 ∧ i = .int .i64 k ∧ PuSt w GB S n #[.int .i64 X, .int .i64 Y, .int .i64 p, .int .i64 q, .slice (some ⟨S, 0, none⟩) n n] (rowUp (fun t => cl (F t)) u k (fun s => cl (P s))) wr) (fun i _ => 4 - (intOf i).toNat)
  case atStart => exact ⟨0, by omega, rfl, HS3.out⟩
  case round =>
    clear HS3
    obtain ⟨k, hk, rfl, hrel⟩ := hrel
    have HL := hid hrel
    by_cases hk4 : k < 4
    · have hidx := run_index_pix P k hk4
      have hcl := hrel.row.cell (i := u + k) (by have := HUN.out; omega)
      have hfr := hrel.row.frozen (u + k)
      have k1 : (0 : Int) ≤ (k : Int) := by omega
      have k2 : (k : Int) < 4 := by omega
      clear hrel
      go_wp2_with (go_at_call 68; refine (clean_any _ _).mono ?_; rintro e w' ⟨rfl, rfl⟩)
      go_roundw
      case rel => exact ⟨k + 1, by omega, by go_num, HL.out.step HSZ.out HGB.out⟩
      case measure => simp [intOf]; omega
    · have hk5 : k = 4 := by omega
      subst hk5
      have z0 := hrel.z.cell 0
      have z1 := hrel.z.cell 1
      have z2 := hrel.z.cell 2
      have z3 := hrel.z.cell 3
      have z4 := hrel.z.cell 4
      have g0 := hrel.g.cell 0
      have g1 := hrel.g.cell 1
      have g2 := hrel.g.cell 2
      have g3 := hrel.g.cell 3
      have g4 := hrel.g.cell 4
      have fz := fun i => hrel.z.frozen i
      simp at z0 z1 z2 z3 z4 g0 g1 g2 g3 g4
      have HBK := hid (hrel.z.set5 (.int .i64 X) (.int .i64 Y) (.int .i64 p) (.int .i64 q) (.slice (some ⟨S, 0, none⟩) n n))
      clear hrel
      go_wp2_with fail
      refine bodyPost_ret (v := .tuple #[frm X Y p q (some ⟨S, 0, none⟩) n n, .int .i64 0]) (results_row_tmp rfl _ _ _ _ _ _ rfl rfl HBK.out Try.underlying39 rfl (by kernel_rfl)) rfl ?_
      have hl5 := HL.out.row.lt
      have hs5 := HSZ.out
      have hn5 := HN2.out
      refine ⟨S, n, rfl, Nat.le_refl _, by unfold maxLen; omega, by omega, by rw [size_set5]; exact hl5, ?_, below_set5 HL.out.be (by omega) _ _ _ _ _⟩
      intro t ht
      have hrd : Rd wr S 0 n (rowUp (fun t => cl (F t)) u 4 (fun s => cl (P s))) := fun t ht => by
        rw [Nat.zero_add, HL.out.row.cell ht]
      exact hrd.far5 (by omega) _ _ _ _ _ t ht
end Go.Proofs.Ytjlghjblpbckfaa
