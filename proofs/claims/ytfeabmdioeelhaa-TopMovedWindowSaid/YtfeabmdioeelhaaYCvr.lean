/-
  Windows: coverOf of the program, and what its function values give.
-/
import Derived.Test.YtfeabmdioeelhaaYPol
namespace Go.Proofs.Ytfeabmdioeelhaa
open Go.RowKit Go.Shelf
open Ieee (Datum Format signed)
attribute [local go_sem] run_store_float

/-- What a window without an error has. -/
structure WinOk (K : Int) (X Y W H S n : Nat) (P Q : Nat → Int) : Prop where
  k1 : 1 ≤ K
  k3 : K ≤ 3
  fx : ∃ q, Fv .f32 X q ∧ -1048576 ≤ q ∧ q ≤ 1048576
  fy : ∃ q, Fv .f32 Y q ∧ -1048576 ≤ q ∧ q ≤ 1048576
  fw : ∃ q, Fv .f32 W q ∧ 0 ≤ q ∧ q ≤ 1048576
  fh : ∃ q, Fv .f32 H q ∧ 0 ≤ q ∧ q ≤ 1048576
  fs : ∃ q, Fv .f32 S q
  n32 : n ≤ 32
  n3 : K = 3 → 3 ≤ n
  pts : ∀ i, i < n → -1048576 ≤ P i ∧ P i ≤ 1048576 ∧ -1048576 ≤ Q i ∧ Q i ≤ 1048576

theorem fv_lo : Fv .f32 3380609024 (-1048576) := by
  have h := ofInt_fv (n := -1048576) (by decide)
  have e : floatOfInt .f32 (-1048576) = 3380609024 := by decide +kernel
  rw [e] at h; exact h
theorem fv_hi : Fv .f32 1233125376 1048576 := by
  have h := ofInt_fv (n := 1048576) (by decide)
  have e : floatOfInt .f32 1048576 = 1233125376 := by decide +kernel
  rw [e] at h; exact h
theorem fv_nul : Fv .f32 0 0 := by
  have h := ofInt_fv (n := 0) (by decide)
  have e : floatOfInt .f32 0 = 0 := by decide +kernel
  rw [e] at h; exact h
theorem fv_one : Fv .f32 1065353216 1 := by
  have h := ofInt_fv (n := 1) (by decide)
  have e : floatOfInt .f32 1 = 1065353216 := by decide +kernel
  rw [e] at h; exact h
theorem inB_fv {lo hi v : Nat} {a b q : Rat} (hlo : Fv .f32 lo a) (hhi : Fv .f32 hi b) (hv : Fv .f32 v q) (h : inB lo hi v = true) : a ≤ q ∧ q ≤ b := by
  have h1 := forder hv hlo
  have h2 := forder hv hhi
  obtain ⟨h3, h4⟩ := inB_yes h
  rw [h1] at h3
  rw [h2] at h4
  constructor
  · by_cases hc : q < a
    · rw [if_pos hc] at h3; simp at h3
    · exact Rat.not_lt.1 hc
  · by_cases hc : b < q
    · rw [if_neg (by grind), if_pos hc] at h4; simp at h4
    · exact Rat.not_lt.1 hc

theorem winE_ok {K : Int} {X Y W H S n : Nat} {P Q : Nat → Int} (h : winE K X Y W H S n P Q = 0) : WinOk K X Y W H S n P Q := by
  cases hk : kindB K
  · rw [winE_kind hk] at h; cases h
  cases h1 : numB X Y W H S
  · rw [winE_num hk h1] at h; cases h
  cases h2 : xyB X Y && whB W H && softB S && manyB K n
  · rw [winE_range hk h1 h2] at h; cases h
  cases h3 : allB (ptB P Q) n
  · rw [winE_far hk h1 h2 h3] at h; cases h
  have g : ∀ i, i < 5 → fin (five X Y W H S i) = true := fun i hi => allB_at h1 i hi
  obtain ⟨qx, fx⟩ := fin_fv (show fin X = true from g 0 (by omega))
  obtain ⟨qy, fy⟩ := fin_fv (show fin Y = true from g 1 (by omega))
  obtain ⟨qw, fw⟩ := fin_fv (show fin W = true from g 2 (by omega))
  obtain ⟨qh, fh⟩ := fin_fv (show fin H = true from g 3 (by omega))
  obtain ⟨qs, fs⟩ := fin_fv (show fin S = true from g 4 (by omega))
  rw [Bool.and_eq_true, Bool.and_eq_true, Bool.and_eq_true] at h2
  obtain ⟨⟨⟨hxy, hwh⟩, _⟩, hm⟩ := h2
  have k := of_decide_eq_true hk
  have h0 : n ≤ 32 ∧ (K = 3 → 3 ≤ n) := by
    unfold manyB at hm
    split at hm <;> simp at hm <;> omega
  refine ⟨k.1, k.2, ⟨qx, fx, inB_fv fv_lo fv_hi fx (allB_at hxy 0 (by omega))⟩, ⟨qy, fy, inB_fv fv_lo fv_hi fy (allB_at hxy 1 (by omega))⟩, ⟨qw, fw, inB_fv fv_nul fv_hi fw (allB_at hwh 0 (by omega))⟩, ⟨qh, fh, inB_fv fv_nul fv_hi fh (allB_at hwh 1 (by omega))⟩, ⟨qs, fs⟩, h0.1, h0.2, fun i hi => ?_⟩
  have hp := allB_at h3 i hi
  unfold ptB at hp
  rw [Bool.and_eq_true] at hp
  obtain ⟨a, b⟩ := plB_true.1 hp.1
  obtain ⟨c, d⟩ := plB_true.1 hp.2
  exact ⟨a, b, c, d⟩

theorem order_some {u v : Nat} (hu : isN .f32 u = false) (hv : isN .f32 v = false) : ∃ r, FloatKind.f32.format.order u v = some r := by
  unfold isN at hu hv
  unfold Format.order
  cases h1 : FloatKind.f32.format.read u with
  | nan s t => rw [h1] at hu; cases hu
  | infinity s =>
    cases h2 : FloatKind.f32.format.read v with
    | nan s t => rw [h2] at hv; cases hv
    | infinity t => exact ⟨_, rfl⟩
    | number t n j => exact ⟨_, rfl⟩
  | number s m i =>
    cases h2 : FloatKind.f32.format.read v with
    | nan s t => rw [h2] at hv; cases hv
    | infinity t => exact ⟨_, rfl⟩
    | number t n j => exact ⟨_, rfl⟩
theorem pw127 : (16777216 : Rat) < pw 127 := by
  have h1 : pw 127 = pw 24 * pw 103 := by rw [← pw_add]; rfl
  have h2 : pw 24 = 16777216 := by unfold pw; decide +kernel
  have h3 : (1 : Rat) < pw 103 := by unfold pw; decide +kernel
  rw [h1, h2]; grind
theorem int_bd {n : Int} {a b : Int} (h1 : a ≤ n) (h2 : n ≤ b) : (a : Rat) ≤ (n : Rat) ∧ (n : Rat) ≤ (b : Rat) := ⟨Rat.intCast_le_intCast.2 h1, Rat.intCast_le_intCast.2 h2⟩
/-- A coordinate less another one: a number. -/
theorem sub_num {x : Int} {X : Nat} {q : Rat} (x1 : -2097152 ≤ x) (x2 : x ≤ 2097152) (hX : Fv .f32 X q) (h1 : -1048576 ≤ q) (h2 : q ≤ 1048576) : ∃ a, floatBits .sub .f32 (floatOfInt .f32 x) X = some a ∧ ∃ qa, Fv .f32 a qa := by
  have hx := ofInt_fv (n := x) (by omega)
  have hb := int_bd x1 x2
  have e1 : ((-2097152 : Int) : Rat) = -2097152 := rfl
  have e2 : ((2097152 : Int) : Rat) = 2097152 := rfl
  rw [e1, e2] at hb
  have hp := pw127
  obtain ⟨qa, f, _⟩ := fsub hx hX (by grind) (by grind)
  exact ⟨_, sub_some hx hX, qa, f⟩

/-- How far beyond a box: of the differences of the coordinates. -/
def boxC (a b W H : Nat) : Nat := mxo ((FloatKind.f32.format.order (cop .sub .f32 (a % 2147483648) W) (cop .sub .f32 (b % 2147483648) H)).getD .eq) (cop .sub .f32 (a % 2147483648) W) (cop .sub .f32 (b % 2147483648) H)
/-- What a window has at a place, but for Out; and with it. -/
def cov0 (K : Int) (X Y W H S n : Nat) (P Q : Nat → Int) (x y : Int) : Nat :=
  if K = 1 then beyC (boxC (cop .sub .f32 (floatOfInt .f32 x) X) (cop .sub .f32 (floatOfInt .f32 y) Y) W H) S
  else if K = 2 then beyC (ellC (cop .sub .f32 (floatOfInt .f32 x) X) (cop .sub .f32 (floatOfInt .f32 y) Y) W H ((FloatKind.f32.format.order W H).getD .eq)) S
  else b2f (parB P Q n x y n)
def covC (o : Bool) (K : Int) (X Y W H S n : Nat) (P Q : Nat → Int) (x y : Int) : Nat := if o = true then cop .sub .f32 1065353216 (cov0 K X Y W H S n P Q x y) else cov0 K X Y W H S n P Q x y

/-- What a function value gives at places. -/
def Covs (w : World) (F : FuncId) (caps : Array Value) (C : Int → Int → Nat) : Prop :=
  ∀ (x y : Int) (w1 : World), -2097152 ≤ x → x ≤ 2097152 → -2097152 ≤ y → y ≤ 2097152 → Below w.heap.size w w1 → Calls Try.prog F (#[.int .i64 x, .int .i64 y] ++ caps) w1 (GaveW w1 (C x y))

theorem enters_c1 (args : Array Value) (w : World) : (callFunc 166 args).run Try.prog w = .ok (.enter 166 args) w := enters_of Try.func166 (by kernel_rfl) rfl args w
theorem enters_c2 (args : Array Value) (w : World) : (callFunc 168 args).run Try.prog w = .ok (.enter 168 args) w := enters_of Try.func168 (by kernel_rfl) rfl args w
theorem enters_c3 (args : Array Value) (w : World) : (callFunc 170 args).run Try.prog w = .ok (.enter 170 args) w := enters_of Try.func170 (by kernel_rfl) rfl args w
theorem enters_c4 (args : Array Value) (w : World) : (callFunc 172 args).run Try.prog w = .ok (.enter 172 args) w := enters_of Try.func172 (by kernel_rfl) rfl args w

theorem GaveW.to {w w1 : World} {v v' : Nat} {e : Ending} (h : GaveW w v e w1) (hv : v = v') : GaveW w v' e w1 := by subst hv; exact h

set_option maxRecDepth 100000 in
set_option maxHeartbeats 1000000 in
/-- A box at a place. -/
theorem c1_any (K : Int) (X Y W H S : Nat) (A : Option Addr) (n c : Nat) (o : Bool) (P Q : Nat → Int) (g : Nat) (x y : Int) (w : World) (hok : WinOk K X Y W H S n P Q) (hB : Blk w g 25 (winA K X Y W H S A n c o))
    (x1 : -2097152 ≤ x) (x2 : x ≤ 2097152) (y1 : -2097152 ≤ y) (y2 : y ≤ 2097152) :
    Calls Try.prog 166 #[.int .i64 x, .int .i64 y, .pointer (some ⟨g, 0, none⟩)] w (GaveW w (beyC (boxC (cop .sub .f32 (floatOfInt .f32 x) X) (cop .sub .f32 (floatOfInt .f32 y) Y) W H) S)) := by
  obtain ⟨qx, fx, _, _⟩ := hok.fx
  obtain ⟨qy, fy, _, _⟩ := hok.fy
  obtain ⟨qw, fw, _, _⟩ := hok.fw
  obtain ⟨qh, fh, _, _⟩ := hok.fh
  obtain ⟨a, ha, _, va⟩ := sub_num x1 x2 fx (by assumption) (by assumption)
  obtain ⟨b, hb, _, vb⟩ := sub_num y1 y2 fy (by assumption) (by assumption)
  obtain ⟨qa, fa⟩ := mag_fv va
  obtain ⟨qb, fb⟩ := mag_fv vb
  have hu := sub_some fa fw
  have hv := sub_some fb fh
  obtain ⟨r, hr⟩ := order_some (floatBits_not_nan hu) (floatBits_not_nan hv)
  have HC := hid (box_any K X Y W H S A n c o (floatOfInt .f32 x) (floatOfInt .f32 y) w ha hb hu hv hr)
  have HV : RowKit.Hid (beyC (mxo r (cop .sub .f32 (a % 2147483648) W) (cop .sub .f32 (b % 2147483648) H)) S = beyC (boxC (cop .sub .f32 (floatOfInt .f32 x) X) (cop .sub .f32 (floatOfInt .f32 y) Y) W H) S) := hid (by
    rw [cop_some ha, cop_some hb]
    unfold boxC
    rw [hr]; rfl)
  have g0 := hB.cell 0
  have g1 := hB.cell 1
  have g2 := hB.cell 2
  have g3 := hB.cell 3
  have g4 := hB.cell 4
  have g5 := hB.cell 5
  have g6 := hB.cell 6
  have g7 := hB.cell 7
  have m1 := hB.lt
  simp at g0 g1 g2 g3 g4 g5 g6 g7
  clear hB ha hb va vb fa fb hu hv hr hok fx fy fw fh
  go_enter Try.func166, Try.ntmps166
  go_wp2_with (go_at_call 167; refine HC.out.mono ?_; rintro e w' ⟨b', rfl, hb', hb⟩; have HB' := hid hb'; have HB := hid hb; clear hb' hb)
  go_ret
  exact ⟨_, rfl, by rw [HB'.out, HV.out], HB.out⟩

set_option maxRecDepth 100000 in
set_option maxHeartbeats 1000000 in
/-- An ellipse at a place. -/
theorem c2_any (K : Int) (X Y W H S : Nat) (A : Option Addr) (n c : Nat) (o : Bool) (P Q : Nat → Int) (g : Nat) (x y : Int) (w : World) (hok : WinOk K X Y W H S n P Q) (hB : Blk w g 25 (winA K X Y W H S A n c o)) :
    Calls Try.prog 168 #[.int .i64 x, .int .i64 y, .pointer (some ⟨g, 0, none⟩)] w (GaveW w (beyC (ellC (cop .sub .f32 (floatOfInt .f32 x) X) (cop .sub .f32 (floatOfInt .f32 y) Y) W H ((FloatKind.f32.format.order W H).getD .eq)) S)) := by
  obtain ⟨qw, fw, _, _⟩ := hok.fw
  obtain ⟨qh, fh, _, _⟩ := hok.fh
  obtain ⟨qs, fs⟩ := hok.fs
  have hr := forder fw fh
  generalize (if qw < qh then Ordering.lt else if qh < qw then Ordering.gt else Ordering.eq) = r at hr
  have HC := hid (ell_any K X Y W H S A n c o (floatOfInt .f32 x) (floatOfInt .f32 y) w hr fw.cn fh.cn fs.cn)
  have HV : RowKit.Hid ((FloatKind.f32.format.order W H).getD .eq = r) := hid (by rw [hr]; rfl)
  have g0 := hB.cell 0
  have g1 := hB.cell 1
  have g2 := hB.cell 2
  have g3 := hB.cell 3
  have g4 := hB.cell 4
  have g5 := hB.cell 5
  have g6 := hB.cell 6
  have g7 := hB.cell 7
  have m1 := hB.lt
  simp at g0 g1 g2 g3 g4 g5 g6 g7
  clear hB hr hok fw fh fs
  go_enter Try.func168, Try.ntmps168
  go_wp2_with (go_at_call 169; refine HC.out.mono ?_; rintro e w' ⟨b', rfl, hb', hb⟩; have HB' := hid hb'; have HB := hid hb; clear hb' hb)
  go_ret
  exact ⟨_, rfl, by rw [HB'.out, HV.out], HB.out⟩

set_option maxRecDepth 100000 in
set_option maxHeartbeats 1000000 in
/-- A polygon at a place. -/
theorem c3_any (K : Int) (X Y W H S : Nat) (A : Option Addr) (n c : Nat) (o : Bool) (P Q : Nat → Int) (g : Nat) (x y : Int) (w : World) (hok : WinOk K X Y W H S n P Q) (hn0 : 0 < n) (hP : Pts w A n P Q) (hB : Blk w g 25 (winA K X Y W H S A n c o))
    (x1 : -2097152 ≤ x) (x2 : x ≤ 2097152) (y1 : -2097152 ≤ y) (y2 : y ≤ 2097152) :
    Calls Try.prog 170 #[.int .i64 x, .int .i64 y, .pointer (some ⟨g, 0, none⟩)] w (GaveW w (b2f (parB P Q n x y n))) := by
  have HC := hid (poly_any A n c P Q x y w hok.n32 hn0 hP hok.pts x1 x2 y1 y2)
  have g6 := hB.cell 6
  have m1 := hB.lt
  simp at g6
  clear hB hok hP
  go_enter Try.func170, Try.ntmps170
  go_wp2_with (go_at_call 171; refine HC.out.mono ?_; rintro e w' ⟨rfl, hb⟩; have HB := hid hb; clear hb)
  go_ret
  exact ⟨_, rfl, by unfold b2f cl; split; exact cn_one; exact cn_nul, HB.out⟩

set_option maxRecDepth 100000 in
/-- What is left of 1. -/
theorem c4_any (F : FuncId) (caps : Array Value) (eF : ∀ (args : Array Value) (w : World), (callFunc F args).run Try.prog w = .ok (.enter F args) w) (C g : Nat) (x y : Int) (w : World) (hB : Blk w g 102 #[.func (.func F) #[] caps])
    (hC : Calls Try.prog F (#[.int .i64 x, .int .i64 y] ++ caps) w (GaveW w C)) :
    Calls Try.prog 172 #[.int .i64 x, .int .i64 y, .pointer (some ⟨g, 0, none⟩)] w (GaveW w (cop .sub .f32 1065353216 C)) := by
  have HC := hid hC
  have g0 := hB.cell 0
  have m1 := hB.lt
  simp at g0
  clear hB hC
  go_enter Try.func172, Try.ntmps172
  go_wp2_with fail
  refine HC.out.mono ?_
  rintro e w' ⟨b', rfl, hb', hb⟩
  have HB' := hid hb'
  have HB := hid hb
  clear hb' hb
  go_wp2_with fail
  go_ret
  refine ⟨_, rfl, ?_, below_drewN HB.out _⟩
  have h := HB'.out
  unfold cl at h ⊢
  rw [cn_fop, cn_one, h]
end Go.Proofs.Ytfeabmdioeelhaa
