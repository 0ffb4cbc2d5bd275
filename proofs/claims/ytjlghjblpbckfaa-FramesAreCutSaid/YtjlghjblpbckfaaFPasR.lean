/-
  Cut and Paste of the reference; the reference's frame of one pixel.
-/
import Derived.Test.YtjlghjblpbckfaaFPaste
namespace Go.Proofs.Ytjlghjblpbckfaa
open Go.RowKit Go.Shelf
attribute [local go_sem] run_store_float

theorem trF_at (f G : Nat → Nat) (p p' di dj ei ej a : Nat) (hia : di + a ≤ p) : ∀ (b i j k : Nat), i < p → k < 4 → trF f G p p' di dj ei ej a b (4 * (p * j + i) + k) =
    if (dj ≤ j ∧ j < dj + b) ∧ di ≤ i ∧ i < di + a then cl (G (4 * (p' * (ej + (j - dj)) + (ei + (i - di))) + k)) else f (4 * (p * j + i) + k) := by
  intro b
  induction b with
  | zero =>
    intro i j k hi hk
    rw [if_neg (by omega)]
    rfl
  | succ r ih =>
    intro i j k hi hk
    show rowUp (trF f G p p' di dj ei ej a r) (4 * (p * (dj + r) + di)) (4 * a) (fun s => cl (G (4 * (p' * (ej + r) + ei) + s))) (4 * (p * j + i) + k) = _
    unfold rowUp
    rcases Nat.lt_trichotomy j (dj + r) with h | h | h
    · have h2 : p * (j + 1) ≤ p * (dj + r) := Nat.mul_le_mul_left p h
      rw [Nat.mul_succ] at h2
      rw [if_neg (by omega), ih i j k hi hk]
      by_cases hc : dj ≤ j ∧ di ≤ i ∧ i < di + a
      · rw [if_pos (by omega), if_pos (by omega)]
      · rw [if_neg (by omega), if_neg (by omega)]
    · subst h
      by_cases hc : di ≤ i ∧ i < di + a
      · rw [if_pos (by omega), if_pos (by omega), show dj + r - dj = r by omega]
        show cl (G (4 * (p' * (ej + r) + ei) + (4 * (p * (dj + r) + i) + k - 4 * (p * (dj + r) + di)))) = _
        congr 2
        omega
      · rw [if_neg (by omega), ih _ _ k hi hk, if_neg (by omega), if_neg (by omega)]
    · have h2 : p * (dj + r + 1) ≤ p * j := Nat.mul_le_mul_left p h
      rw [Nat.mul_succ] at h2
      rw [if_neg (by omega), ih i j k hi hk, if_neg (by omega), if_neg (by omega)]

/-- What Paste says of a channel of a pixel. -/
def pasG (f G : Nat → Nat) (p p' di dj ei ej a b : Nat) (i j k : Nat) : Nat :=
  if (dj ≤ j ∧ j < dj + b) ∧ di ≤ i ∧ i < di + a then cl (G (4 * (p' * (ej + (j - dj)) + (ei + (i - di))) + k)) else f (4 * (p * j + i) + k)
theorem gI_pas (f G : Nat → Nat) (p p' di dj ei ej a b : Nat) (hp : 0 < p) (hia : di + a ≤ p) (t : Nat) : gI (pasG f G p p' di dj ei ej a b) p t = trF f G p p' di dj ei ej a b t := by
  have h := trF_at f G p p' di dj ei ej a hia b (t / 4 % p) (t / 4 / p) (t % 4) (Nat.mod_lt _ hp) (Nat.mod_lt _ (by omega))
  rw [Nat.div_add_mod, Nat.div_add_mod] at h
  rw [h]
  show pasG f G p p' di dj ei ej a b (t / 4 % p) (t / 4 / p) (t % 4) = _
  unfold pasG
  rw [Nat.div_add_mod, Nat.div_add_mod]

theorem enters_cut1 (args : Array Value) (w : World) : (callFunc 76 args).run Try.prog w = .ok (.enter 76 args) w := enters_of Try.func76 (by kernel_rfl) rfl args w
theorem enters_paste1 (args : Array Value) (w : World) : (callFunc 71 args).run Try.prog w = .ok (.enter 71 args) w := enters_of Try.func71 (by kernel_rfl) rfl args w

set_option maxRecDepth 100000 in
set_option maxHeartbeats 2000000 in
/-- The function value of Cut: a pixel of the frame. -/
theorem cutr1_any (X Y U V : Int) (p q n c i j bx : Nat) (A : Option Addr) (F : Nat → Nat) (w : World) (hU : U = X + i) (hV : V = Y + j) (hi : i < p) (hj : j < q) (hn : n = 4 * (p * q)) (hnc : n ≤ c) (hcm : c ≤ maxLen) (hn2 : n ≤ 65536)
    (hp2 : p ≤ 256) (hq2 : q ≤ 256) (x1 : -1048576 ≤ X) (x2 : X ≤ 1048576) (y1 : -1048576 ≤ Y) (y2 : Y ≤ 1048576) (hF : Src w A n F) (hbx : Blk w bx 39 #[.int .i64 X, .int .i64 Y, .int .i64 p, .int .i64 q, .slice A n c]) :
    Calls Try.prog 76 #[.int .i64 U, .int .i64 V, .pointer (some ⟨bx, 0, none⟩)] w (PixGave w fun k => cl (F (4 * (p * j + i) + k))) := by
  have c0 := hbx.cell 0
  have c1 := hbx.cell 1
  have c2 := hbx.cell 2
  have c3 := hbx.cell 3
  have c4 := hbx.cell 4
  simp at c0 c1 c2 c3 c4
  have lx := hbx.lt
  have HPX : RowKit.Hid (∀ w1, Below w.heap.size w w1 → Calls Try.prog 28 #[frm X Y p q A n c, .int .i64 U, .int .i64 V] w1 fun e w' => e = .returned (pix fun k => F (4 * (p * j + i) + k)) ∧ Below w1.heap.size w1 w') := hid fun w1 hb => by
    rw [hU, hV]
    exact pixelAt_any X Y p q n c i j A F w1 hi hj hn hnc hcm hn2 hp2 hq2 x1 x2 y1 y2 (hF.below hb)
  have HZ : RowKit.Hid (Blk (w.alloc (.cells zpix 42)) w.heap.size 42 zpix) := Blk.new_at _ _ _ rfl
  have HAL : RowKit.Hid (Below w.heap.size w (w.alloc (.cells zpix 42))) := (Below.refl _ _).alloc (Nat.le_refl _) _
  have px := pix_cells fun k => F (4 * (p * j + i) + k)
  clear hbx hF hn hU hV
  go_enter Try.func76, Try.ntmps76
  go_wp2_with fail
  refine (HPX.out _ HAL.out).mono ?_
  rintro e w1 ⟨rfl, hb1⟩
  have hz := HZ.out.below hb1 HZ.out.lt
  have s0 := hz.cell 0
  have s1 := hz.cell 1
  have s2 := hz.cell 2
  have s3 := hz.cell 3
  have fz := fun i => hz.frozen i
  simp at s0 s1 s2 s3
  have HBK := hid (hz.set4 (.float .f32 (F (4 * (p * j + i)))) (.float .f32 (F (4 * (p * j + i) + 1))) (.float .f32 (F (4 * (p * j + i) + 2))) (.float .f32 (F (4 * (p * j + i) + 3))))
  have HE := hid (below_to HAL.out hb1)
  clear hz hb1
  go_wp2
  refine bodyPost_ret (v := pix fun k => F (4 * (p * j + i) + k)) (results_cell_row rfl _ _ _ _ _ _ _ rfl HBK.out Try.underlying42 rfl (by kernel_rfl)) rfl ⟨fun k => F (4 * (p * j + i) + k), rfl, fun _ _ => rfl, ?_⟩
  exact (((HE.out.setCell (by simp) _).setCell (by simp) _).setCell (by simp) _).setCell (by simp) _

set_option maxRecDepth 100000 in
set_option maxHeartbeats 1000000 in
theorem there_any (x y X Y p q : Int) (s : Small x y 1 1) (s' : Small X Y p q) (w : World) :
    Calls Try.prog 72 #[reg X Y p q, .int .i64 x, .int .i64 y] w fun e w' => e = .returned (.bool (inB x y 1 1 X Y p q)) ∧ Below w.heap.size w w' := by
  have HI : RowKit.Hid (∀ w, Calls Try.prog 20 #[reg x y 1 1, reg X Y p q] w fun e w' => e = .returned (.bool (inB x y 1 1 X Y p q)) ∧ Below w.heap.size w w') := hid fun w => insider_any x y 1 1 X Y p q s s' w
  clear s s'
  have HAL : RowKit.Hid (Below w.heap.size w (w.alloc (.cells #[.int .i64 X, .int .i64 Y, .int .i64 p, .int .i64 q] 23))) := (Below.refl _ _).alloc (Nat.le_refl _) _
  go_enter Try.func72, Try.ntmps72
  go_wp2_with fail
  refine (HI.out _).mono ?_
  rintro e w1 ⟨rfl, hb⟩
  have HB := hid (below_to HAL.out hb)
  clear hb
  go_wp2_with fail
  go_ret
  exact ⟨rfl, HB.out⟩

/-- What a pixel of a frame gives at a place, in a world in which the frame still reads so. -/
theorem pixAt_in (X Y U V : Int) (p q n c i j : Nat) (A : Option Addr) (F : Nat → Nat) (w : World) (hU : U = X + i) (hV : V = Y + j) (hi : i < p) (hj : j < q) (hn : n = 4 * (p * q)) (hnc : n ≤ c) (hcm : c ≤ maxLen) (hn2 : n ≤ 65536)
    (hp2 : p ≤ 256) (hq2 : q ≤ 256) (x1 : -1048576 ≤ X) (x2 : X ≤ 1048576) (y1 : -1048576 ≤ Y) (y2 : Y ≤ 1048576) (hF : Src w A n F) :
    Calls Try.prog 28 #[frm X Y p q A n c, .int .i64 U, .int .i64 V] w fun e w' => e = .returned (pix fun k => F (4 * (p * j + i) + k)) ∧ Below w.heap.size w w' := by
  rw [hU, hV]
  exact pixelAt_any X Y p q n c i j A F w hi hj hn hnc hcm hn2 hp2 hq2 x1 x2 y1 y2 hF

set_option maxRecDepth 100000 in
set_option maxHeartbeats 2000000 in
/-- The function value of Paste: a pixel of the second frame where that has one, otherwise of the first one. -/
theorem paster1_any (X Y X' Y' : Int) (p q n c p' q' n' c' i j bf bg : Nat) (A B : Option Addr) (H : Nat → Nat) (w : World) (s : Small (X + i) (Y + j) 1 1) (s' : Small X' Y' p' q')
    (hbg : Blk w bg 39 #[.int .i64 X', .int .i64 Y', .int .i64 p', .int .i64 q', .slice B n' c']) (hbf : Blk w bf 39 #[.int .i64 X, .int .i64 Y, .int .i64 p, .int .i64 q, .slice A n c])
    (hyes : inB (X + i) (Y + j) 1 1 X' Y' p' q' = true → ∀ w1, Below w.heap.size w w1 → Calls Try.prog 28 #[frm X' Y' p' q' B n' c', .int .i64 (X + i), .int .i64 (Y + j)] w1 fun e w' => e = .returned (pix H) ∧ Below w1.heap.size w1 w')
    (hno : inB (X + i) (Y + j) 1 1 X' Y' p' q' = false → ∀ w1, Below w.heap.size w w1 → Calls Try.prog 28 #[frm X Y p q A n c, .int .i64 (X + i), .int .i64 (Y + j)] w1 fun e w' => e = .returned (pix H) ∧ Below w1.heap.size w1 w') :
    Calls Try.prog 71 #[.int .i64 (X + i), .int .i64 (Y + j), .pointer (some ⟨bg, 0, none⟩), .pointer (some ⟨bf, 0, none⟩)] w (PixGave w fun k => cl (H k)) := by
  have HT : RowKit.Hid (∀ w, Calls Try.prog 72 #[reg X' Y' p' q', .int .i64 (X + i), .int .i64 (Y + j)] w fun e w' => e = .returned (.bool (inB (X + i) (Y + j) 1 1 X' Y' p' q')) ∧ Below w.heap.size w w') := hid fun w => there_any _ _ _ _ _ _ s s' w
  have HZ : RowKit.Hid (Blk (w.alloc (.cells zpix 42)) w.heap.size 42 zpix) := Blk.new_at _ _ _ rfl
  have HAL : RowKit.Hid (Below w.heap.size w (w.alloc (.cells zpix 42))) := (Below.refl _ _).alloc (Nat.le_refl _) _
  have px := pix_cells H
  have HBG := hid hbg
  have HBF := hid hbf
  have g0 := hbg.cell 0
  have g1 := hbg.cell 1
  have g2 := hbg.cell 2
  have g3 := hbg.cell 3
  simp at g0 g1 g2 g3
  have lg := hbg.lt
  have lf := hbf.lt
  obtain ⟨U, hU⟩ : ∃ U : Int, X + i = U := ⟨_, rfl⟩
  obtain ⟨V, hV⟩ : ∃ V : Int, Y + j = V := ⟨_, rfl⟩
  rw [hU, hV] at HT hyes hno ⊢
  have HYES := hid hyes
  have HNO := hid hno
  clear hbg hbf s s' hU hV hyes hno
  go_enter Try.func71, Try.ntmps71
  go_wp2_with fail
  refine (HT.out _).mono ?_
  rintro e w0 ⟨rfl, hb0⟩
  have HZ0 := hid (HZ.out.below hb0 HZ.out.lt)
  have HE0 := hid (below_to HAL.out hb0)
  clear hb0 g0 g1 g2 g3
  have hg := HBG.out.below HE0.out HBG.out.lt
  have hf := HBF.out.below HE0.out HBF.out.lt
  have g0 := hg.cell 0
  have g1 := hg.cell 1
  have g2 := hg.cell 2
  have g3 := hg.cell 3
  have g4 := hg.cell 4
  have f0 := hf.cell 0
  have f1 := hf.cell 1
  have f2 := hf.cell 2
  have f3 := hf.cell 3
  have f4 := hf.cell 4
  simp at g0 g1 g2 g3 g4 f0 f1 f2 f3 f4
  clear hg hf
  cases hin : inB U V 1 1 X' Y' p' q'
  case' true => have HC := hid (HYES.out hin _ HE0.out)
  case' false => have HC := hid (HNO.out hin _ HE0.out)
  all_goals
    clear HYES HNO hin
    go_wp2_with fail
    refine HC.out.mono ?_
    rintro e w1 ⟨rfl, hb1⟩
    have hz := HZ0.out.below hb1 HZ0.out.lt
    have s0 := hz.cell 0
    have s1 := hz.cell 1
    have s2 := hz.cell 2
    have s3 := hz.cell 3
    have fz := fun i => hz.frozen i
    simp at s0 s1 s2 s3
    have HBK := hid (hz.set4 (.float .f32 (H 0)) (.float .f32 (H 1)) (.float .f32 (H 2)) (.float .f32 (H 3)))
    have HE := hid (below_to HE0.out hb1)
    clear hz hb1 g0 g1 g2 g3 g4 f0 f1 f2 f3 f4
    go_wp2
    refine bodyPost_ret (v := pix H) (results_cell_row rfl _ _ _ _ _ _ _ rfl HBK.out Try.underlying42 rfl (by kernel_rfl)) rfl ⟨H, rfl, fun _ _ => rfl, ?_⟩
    exact (((HE.out.setCell (by simp) _).setCell (by simp) _).setCell (by simp) _).setCell (by simp) _

set_option maxRecDepth 100000 in
set_option maxHeartbeats 2000000 in
theorem cutr_ok (X Y U V : Int) (p q n c a b m ei ej : Nat) (A : Option Addr) (F : Nat → Nat) (w : World) (h1 : frmE X Y p q n = 0) (h2 : regE U V a b = 0) (hU : U = X + ei) (hV : V = Y + ej) (hia : ei + a ≤ p) (hjb : ej + b ≤ q) (hm : m = 4 * (a * b)) (hnc : n ≤ c) (hcm : c ≤ maxLen) (hF : Src w A n F) :
    Calls Try.prog 34 #[frm X Y p q A n c, reg U V a b] w (Framed w U V a b m fun t => cl (F (4 * (p * (ej + t / 4 / a) + (ei + t / 4 % a)) + t % 4))) := by
  obtain ⟨hr1, hn4⟩ := frmE_zero h1
  obtain ⟨p1, p2, q1, q2, pq, x1, x2, y1, y2⟩ := regE_zero hr1
  obtain ⟨a1, a2, b1, b2, ab, u1, u2, v1, v2⟩ := regE_zero h2
  have hn : n = 4 * (p * q) := by
    rw [Int.mul_assoc] at hn4
    have : ((4 * (p * q) : Nat) : Int) = 4 * ((p : Int) * (q : Int)) := by push_cast; rfl
    omega
  have hn2 : n ≤ 65536 := by rw [Int.mul_assoc] at hn4; omega
  have hm2 : m ≤ 65536 := by
    have : ((a * b : Nat) : Int) = (a : Int) * (b : Int) := by push_cast; rfl
    omega
  obtain ⟨w3, hw3⟩ : ∃ w3, w3 = (((w.alloc (.cells #[.int .i64 X, .int .i64 Y, .int .i64 p, .int .i64 q, .slice A n c] 39)).alloc (.cells #[.int .i64 U, .int .i64 V, .int .i64 a, .int .i64 b] 23)).alloc (.cells zfrm 39)) := ⟨_, rfl⟩
  have hbx : Blk w3 w.heap.size 39 #[.int .i64 X, .int .i64 Y, .int .i64 p, .int .i64 q, .slice A n c] := by rw [hw3]; exact ((Blk.new_at _ _ _ rfl).alloc _).alloc _
  have hbr : Blk w3 (w.heap.size + 1 + 1) 39 zfrm := by rw [hw3]; exact Blk.new_at _ _ _ (by simp)
  have hbel : Below w.heap.size w w3 := by rw [hw3]; exact (((Below.refl _ _).alloc (Nat.le_refl _) _).alloc (by simp) _).alloc (by simp; omega) _
  have hmade := made_any 76 #[.pointer (some ⟨w.heap.size, 0, none⟩)] enters_cut1 U V a b m (fun i j k => cl (F (4 * (p * (ej + j) + (ei + i)) + k))) w3 hm hm2 (by omega) (by omega) (by omega) (by omega) (by omega) (by omega) (by omega) (by omega)
    (fun i j w1 hi hj hb => cutr1_any X Y (U + i) (V + j) p q n c (ei + i) (ej + j) w.heap.size A F w1 (by rw [hU]; push_cast; omega) (by rw [hV]; push_cast; omega) (by omega) (by omega) hn hnc hcm hn2 (by omega) (by omega) (by omega) (by omega) (by omega) (by omega) ((hF.below hbel).below hb) (hbx.below hb hbx.lt))
  have HMD := hid hmade
  have HBR := hid hbr
  have HBE := hid hbel
  have HW3 := hid hw3
  have hmf : ∀ (fn : Fn) (first cap : Array Value) (w : World), (Instr.makeFunc fn first cap).run Try.prog w = .ok (.func fn first cap) w := fun _ _ _ _ => rfl
  clear hbx hbr hbel hmade hF hn hw3 h1 h2 hU hV hr1 hn4 hm
  go_enter Try.func34, Try.ntmps34
  go_wp2_with fail
  rw [← HW3.out]
  refine HMD.out.mono ?_
  rintro e w4 ⟨bb, c', rfl, q1', q2', q3, q4, q5, q6⟩
  have hb4 := HBR.out.below q6 HBR.out.lt
  have z0 := hb4.cell 0
  have z1 := hb4.cell 1
  have z2 := hb4.cell 2
  have z3 := hb4.cell 3
  have z4 := hb4.cell 4
  have fz := fun i => hb4.frozen i
  simp at z0 z1 z2 z3 z4
  have hblk := hb4.set5 (.int .i64 U) (.int .i64 V) (.int .i64 a) (.int .i64 b) (.slice (some ⟨bb, 0, none⟩) m c')
  have HBK := hid hblk
  have hs3 := HBE.out.size
  have hs4 := HBR.out.lt
  have HQ := hid (And.intro q5 (below_to HBE.out q6))
  clear hb4 hblk q5 q6
  go_wp2
  refine bodyPost_ret (v := frm U V a b (some ⟨bb, 0, none⟩) m c') (results_cell_row rfl _ _ _ _ _ _ _ rfl HBK.out Try.underlying39 rfl (by kernel_rfl)) rfl ?_
  exact ⟨bb, c', rfl, q1', q2', by omega, by rw [size_set5]; exact q4, HQ.out.1.far5 (by omega) _ _ _ _ _, below_set5 HQ.out.2 (by omega) _ _ _ _ _⟩

set_option maxRecDepth 100000 in
set_option maxHeartbeats 2000000 in
theorem paster_ok (X Y X' Y' U V : Int) (p q n c p' q' n' c' a b di dj ei ej : Nat) (A B : Option Addr) (F G : Nat → Nat) (w : World) (h1 : frmE X Y p q n = 0) (h2 : frmE X' Y' p' q' n' = 0)
    (hU : U = X + di) (hU' : U = X' + ei) (hV : V = Y + dj) (hV' : V = Y' + ej) (hia : di + a ≤ p) (hmU : max X X' = U) (hmV : max Y Y' = V) (hma : min (X + p) (X' + p') - U = a) (hmb : min (Y + q) (Y' + q') - V = b)
    (hnc : n ≤ c) (hcm : c ≤ maxLen) (hnc' : n' ≤ c') (hcm' : c' ≤ maxLen) (hF : Src w A n F) (hG : Src w B n' G) :
    Calls Try.prog 32 #[frm X Y p q A n c, frm X' Y' p' q' B n' c'] w (Framed w X Y p q n (trF (fun t => cl (F t)) G p p' di dj ei ej a b)) := by
  obtain ⟨hr1, hn4⟩ := frmE_zero h1
  obtain ⟨hr2, hn4'⟩ := frmE_zero h2
  have hs1 := small_of hr1
  have hs2 := small_of hr2
  obtain ⟨p1, p2, q1, q2, pq, x1, x2, y1, y2⟩ := regE_zero hr1
  obtain ⟨p1', p2', q1', q2', pq', x1', x2', y1', y2'⟩ := regE_zero hr2
  have hn : n = 4 * (p * q) := by
    rw [Int.mul_assoc] at hn4
    have : ((4 * (p * q) : Nat) : Int) = 4 * ((p : Int) * (q : Int)) := by push_cast; rfl
    omega
  have hn' : n' = 4 * (p' * q') := by
    rw [Int.mul_assoc] at hn4'
    have : ((4 * (p' * q') : Nat) : Int) = 4 * ((p' : Int) * (q' : Int)) := by push_cast; rfl
    omega
  have hn2 : n ≤ 65536 := by rw [Int.mul_assoc] at hn4; omega
  have hn2' : n' ≤ 65536 := by rw [Int.mul_assoc] at hn4'; omega
  obtain ⟨w3, hw3⟩ : ∃ w3, w3 = (((w.alloc (.cells #[.int .i64 X, .int .i64 Y, .int .i64 p, .int .i64 q, .slice A n c] 39)).alloc (.cells #[.int .i64 X', .int .i64 Y', .int .i64 p', .int .i64 q', .slice B n' c'] 39)).alloc (.cells zfrm 39)) := ⟨_, rfl⟩
  have hbf : Blk w3 w.heap.size 39 #[.int .i64 X, .int .i64 Y, .int .i64 p, .int .i64 q, .slice A n c] := by rw [hw3]; exact ((Blk.new_at _ _ _ rfl).alloc _).alloc _
  have hbg : Blk w3 (w.heap.size + 1) 39 #[.int .i64 X', .int .i64 Y', .int .i64 p', .int .i64 q', .slice B n' c'] := by rw [hw3]; exact (Blk.new_at _ _ _ (by simp)).alloc _
  have hbr : Blk w3 (w.heap.size + 1 + 1) 39 zfrm := by rw [hw3]; exact Blk.new_at _ _ _ (by simp)
  have hbel : Below w.heap.size w w3 := by rw [hw3]; exact (((Below.refl _ _).alloc (Nat.le_refl _) _).alloc (by simp) _).alloc (by simp; omega) _
  have hmade := made_any 71 #[.pointer (some ⟨w.heap.size + 1, 0, none⟩), .pointer (some ⟨w.heap.size, 0, none⟩)] enters_paste1 X Y p q n (pasG (fun t => cl (F t)) G p p' di dj ei ej a b) w3 hn hn2 (by omega) (by omega) (by omega) (by omega) (by omega) (by omega) (by omega) (by omega)
    (fun i j w1 hi hj hb => by
      have hf1 := (hF.below hbel).below hb
      have hg1 := (hG.below hbel).below hb
      by_cases hc : (dj ≤ j ∧ j < dj + b) ∧ di ≤ i ∧ i < di + a
      · have e : ∀ k, pasG (fun t => cl (F t)) G p p' di dj ei ej a b i j k = cl (G (4 * (p' * (ej + (j - dj)) + (ei + (i - di))) + k)) := fun k => if_pos hc
        refine (paster1_any X Y X' Y' p q n c p' q' n' c' i j w.heap.size (w.heap.size + 1) A B (fun k => G (4 * (p' * (ej + (j - dj)) + (ei + (i - di))) + k)) w1 ⟨by omega, by omega, by omega, by omega, by omega, by omega, by omega, by omega⟩ hs2 (hbg.below hb hbg.lt) (hbf.below hb hbf.lt)
          (fun _ w2 hb2 => pixAt_in X' Y' (X + i) (Y + j) p' q' n' c' (ei + (i - di)) (ej + (j - dj)) B G w2 (by omega) (by omega) (by omega) (by omega) hn' hnc' hcm' hn2' (by omega) (by omega) (by omega) (by omega) (by omega) (by omega) (hg1.below hb2))
          (fun hh => absurd (show inB (X + i) (Y + j) 1 1 X' Y' p' q' = true from inB_true.2 ⟨by omega, by omega, by omega, by omega⟩) (by rw [hh]; simp))).mono ?_
        rintro e' w' ⟨f, h1, h2, h3⟩
        exact ⟨f, h1, fun k hk => by rw [h2 k hk, e k], h3⟩
      · have e : ∀ k, pasG (fun t => cl (F t)) G p p' di dj ei ej a b i j k = cl (F (4 * (p * j + i) + k)) := fun k => if_neg hc
        refine (paster1_any X Y X' Y' p q n c p' q' n' c' i j w.heap.size (w.heap.size + 1) A B (fun k => F (4 * (p * j + i) + k)) w1 ⟨by omega, by omega, by omega, by omega, by omega, by omega, by omega, by omega⟩ hs2 (hbg.below hb hbg.lt) (hbf.below hb hbf.lt)
          (fun hh => by
            obtain ⟨i1, i2, i3, i4⟩ := inB_true.1 hh
            exact absurd (show (dj ≤ j ∧ j < dj + b) ∧ di ≤ i ∧ i < di + a by omega) hc)
          (fun _ w2 hb2 => pixAt_in X Y (X + i) (Y + j) p q n c i j A F w2 rfl rfl hi hj hn hnc hcm hn2 (by omega) (by omega) (by omega) (by omega) (by omega) (by omega) (hf1.below hb2))).mono ?_
        rintro e' w' ⟨f, h1, h2, h3⟩
        exact ⟨f, h1, fun k hk => by rw [h2 k hk, e k], h3⟩)
  have HMD := hid hmade
  have HBR := hid hbr
  have HBE := hid hbel
  have HW3 := hid hw3
  have HP := hid (show 0 < p by omega)
  have HIA := hid hia
  have hbf0 := hbf.cell 0
  have hbf1 := hbf.cell 1
  have hbf2 := hbf.cell 2
  have hbf3 := hbf.cell 3
  have hmf : ∀ (fn : Fn) (first cap : Array Value) (w : World), (Instr.makeFunc fn first cap).run Try.prog w = .ok (.func fn first cap) w := fun _ _ _ _ => rfl
  clear hbf hbg hbr hbel hmade hF hG hn hn' hw3 h1 h2 hU hU' hV hV' hr1 hr2 hn4 hn4' hmU hmV hma hmb hs1 hs2 hia hbf0 hbf1 hbf2 hbf3 pq pq'
  go_enter Try.func32, Try.ntmps32
  go_wp2_with fail
  rw [← HW3.out]
  refine HMD.out.mono ?_
  rintro e w4 ⟨bb, c2, rfl, q1'', q2'', q3, q4, q5, q6⟩
  have hb4 := HBR.out.below q6 HBR.out.lt
  have z0 := hb4.cell 0
  have z1 := hb4.cell 1
  have z2 := hb4.cell 2
  have z3 := hb4.cell 3
  have z4 := hb4.cell 4
  have fz := fun i => hb4.frozen i
  simp at z0 z1 z2 z3 z4
  have hblk := hb4.set5 (.int .i64 X) (.int .i64 Y) (.int .i64 p) (.int .i64 q) (.slice (some ⟨bb, 0, none⟩) n c2)
  have HBK := hid hblk
  have hs3 := HBE.out.size
  have hs4 := HBR.out.lt
  have HQ := hid (And.intro q5 (below_to HBE.out q6))
  clear hb4 hblk q5 q6
  go_wp2
  refine bodyPost_ret (v := frm X Y p q (some ⟨bb, 0, none⟩) n c2) (results_cell_row rfl _ _ _ _ _ _ _ rfl HBK.out Try.underlying39 rfl (by kernel_rfl)) rfl ?_
  refine Framed.congr (F := gI (pasG (fun t => cl (F t)) G p p' di dj ei ej a b) p) ?_ (fun t _ => gI_pas _ G p p' di dj ei ej a b HP.out HIA.out t)
  exact ⟨bb, c2, rfl, q1'', q2'', by omega, by rw [size_set5]; exact q4, HQ.out.1.far5 (by omega) _ _ _ _ _, below_set5 HQ.out.2 (by omega) _ _ _ _ _⟩
end Go.Proofs.Ytjlghjblpbckfaa
