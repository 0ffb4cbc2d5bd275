/-
  Windows: what they have at places, in the program: magnitudes, fading, boxes.
-/
import Derived.Test.YtfeabmdioeelhaaYMvd
import Derived.Test.YtfeabmdioeelhaaYMix
import Derived.Deep.QuietTactic
import Derived.BigQuiet
namespace Go.Proofs.Ytfeabmdioeelhaa
open Go.RowKit Go.Shelf
open Ieee (Datum Format signed)
attribute [local go_sem] run_store_float

/-- What is written of a single's number: its own word. -/
theorem near_word {b : Nat} {s : Bool} {m : Nat} {p : Int} (neg : Bool) (h : FloatKind.f32.format.read b = .number s m p) : FloatKind.f32.format.nearest neg m p = FloatKind.f32.format.word neg (b % 2147483648) := by
  have hS : FloatKind.f32.format.signWeight = 2147483648 := rfl
  have hB : FloatKind.f32.format.binade = 8388608 := rfl
  have hI : FloatKind.f32.format.infRung = 2139095040 := rfl
  have hL : FloatKind.f32.format.leastPlace = -149 := rfl
  have hF : FloatKind.f32.format.fractionBits = 23 := rfl
  unfold Format.read at h
  dsimp only at h
  rw [hS, hB, hI, hL] at h
  generalize hr : b % 2147483648 = r at *
  unfold Format.nearest
  rw [hB, hI, hL, hF]
  by_cases h1 : r < 8388608
  · rw [if_pos h1] at h
    cases h
    by_cases h0 : m = 0
    · rw [if_pos h0, h0]
    · rw [if_neg h0]
      have hl := log2_le_of_lt (m := m) (k := 22) (by omega)
      dsimp only
      rw [show max (-149 + (m.log2 : Int) - ((23 : Nat) : Int)) (-149) = -149 by omega]
      rw [show ((-149 : Int) - -149).toNat = 0 from rfl, Nat.shiftLeft_zero, cut_zero, Nat.zero_mul, Nat.zero_add, Nat.min_eq_left (by omega)]
  · rw [if_neg h1] at h
    by_cases h2 : r < 2139095040
    · rw [if_pos h2] at h
      cases h
      have hlog : (8388608 + r % 8388608).log2 = 23 := by
        rw [Nat.log2_eq_iff (by omega)]
        have := Nat.mod_lt r (show 0 < 8388608 by decide)
        omega
      rw [if_neg (by omega), hlog]
      dsimp only
      have hd := Nat.div_add_mod r 8388608
      have hm := Nat.mod_lt r (show 0 < 8388608 by decide)
      have hq : 1 ≤ r / 8388608 := by omega
      generalize r / 8388608 = e at *
      generalize r % 8388608 = t at *
      rw [show max (-149 + ((e - 1 : Nat) : Int) + ((23 : Nat) : Int) - ((23 : Nat) : Int)) (-149) = -149 + ((e - 1 : Nat) : Int) by omega]
      rw [show (-149 + ((e - 1 : Nat) : Int) - (-149 + ((e - 1 : Nat) : Int))).toNat = 0 by omega, show (-149 + ((e - 1 : Nat) : Int) - -149).toNat = e - 1 by omega, Nat.shiftLeft_zero, cut_zero]
      have : (e - 1) * 8388608 + (8388608 + t) = r := by omega
      rw [this, Nat.min_eq_left (by omega)]
    · rw [if_neg h2] at h
      split at h <;> cases h

def absB (x : Nat) : Nat := (bits .andNot .u64 (x : Int) 9223372036854775808).toNat
theorem wid_lt (b : Nat) : wid b < 18446744073709551616 := Ieee.Format.write_lt Ieee.double _
theorem absB_read (b : Nat) : FloatKind.f64.format.read (absB (wid b)) = Datum.abs (FloatKind.f64.format.read (wid b)) := by
  unfold absB
  rw [andNot_top _ (wid_lt b)]
  exact read_abs Ieee.double (wid b)

/-- The magnitude of a single, by way of a double. -/
theorem abs_some (r : Nat) (h : isN .f32 r = false) : floatToFloatBits .f64 (absB (wid r)) .f32 = some (r % 2147483648) := by
  cases hr : FloatKind.f32.format.read r with
  | nan s t => unfold isN at h; rw [hr] at h; cases h
  | infinity s =>
    have e : wid r = FloatKind.f64.encode (.infinity s) := by
      unfold wid
      have : FloatKind.f32.decode r = .infinity s := hr
      rw [this]
    have hm : r % 2147483648 = 2139095040 := by
      have hS : FloatKind.f32.format.signWeight = 2147483648 := rfl
      have hB : FloatKind.f32.format.binade = 8388608 := rfl
      have hI : FloatKind.f32.format.infRung = 2139095040 := rfl
      unfold Format.read at hr
      dsimp only at hr
      rw [hS, hB, hI] at hr
      split at hr
      · cases hr
      · split at hr
        · cases hr
        · split at hr
          · assumption
          · cases hr
    rw [e, hm]
    cases s <;> decide +kernel
  | number s m p =>
    obtain ⟨q, p', hw, hpp⟩ := wid_num hr
    have hd : FloatKind.f64.decode (absB (wid r)) = .number false (m * 2 ^ q) (p' - q) := by
      show FloatKind.f64.format.read _ = _
      rw [absB_read, hw]; rfl
    have he : FloatKind.f32.encode (.number false (m * 2 ^ q) (p' - q)) = r % 2147483648 := by
      have e1 : FloatKind.f32.encode (.number false (m * 2 ^ q) (p' - q)) = FloatKind.f32.format.nearest false m p' := nearest_shift FloatKind.f32.format false m p' q
      rw [e1]
      by_cases h0 : m = 0
      · have hw := near_word false hr
        subst h0
        have e : ∀ p, FloatKind.f32.format.nearest false 0 p = FloatKind.f32.format.word false 0 := fun p => by simp [Format.nearest]
        rw [e] at hw ⊢
        rw [hw]; simp [Format.word]
      · rw [hpp h0, near_word false hr]; simp [Format.word]
    have hrd : FloatKind.f32.format.read (r % 2147483648) = Datum.abs (FloatKind.f32.format.read r) := read_abs Ieee.single r
    unfold floatToFloatBits
    rw [if_neg (by decide), hd]
    have hi : (FloatKind.f32.decode (r % 2147483648)).isInfinity = false := by
      show (FloatKind.f32.format.read _).isInfinity = false
      rw [hrd, hr]; rfl
    simp only [he]
    rw [if_neg (by rw [hi]; simp)]

theorem isN_mod (r : Nat) : isN .f32 (r % 2147483648) = isN .f32 r := by
  rw [isN32, isN32, Nat.mod_mod]
theorem isN_absB (x : Nat) (hx : x < 18446744073709551616) : isN .f64 (absB x) = isN .f64 x := by
  unfold absB
  rw [andNot_top _ hx, isN64, isN64, Nat.mod_mod]

theorem abs_any (x : Nat) (w : World) : Calls Try.prog 221 #[.float .f64 x] w fun e w' => e = .returned (.float .f64 (absB x)) ∧ w = w' := by
  go_enter Try.func221, Try.ntmps221
  go_wp2
  go_ret
  exact ⟨rfl, rfl⟩


theorem mag_fv {v : Nat} {q : Rat} (h : Fv .f32 v q) : ∃ q', Fv .f32 (v % 2147483648) q' := by
  obtain ⟨s, m, p, hr, _⟩ := h
  have hrd : FloatKind.f32.format.read (v % 2147483648) = Datum.abs (FloatKind.f32.format.read v) := read_abs Ieee.single v
  rw [hr] at hrd
  exact ⟨_, false, m, p, hrd, rfl⟩

theorem magn_any (v : Nat) (h : isN .f32 v = false) (w : World) : Calls Try.prog 213 #[.float .f32 v] w fun e w' => e = .returned (.float .f32 (v % 2147483648)) ∧ w' = w := by
  have h1 := widen_some v h
  have h2 := abs_some v h
  have a1 := fcvv h1
  have a2 := fcdv h1
  have b1 := fcvv h2
  have b2 := fcdv h2
  clear h1 h2
  go_enter Try.func213, Try.ntmps213
  go_wp2_with (go_at_call 221; refine (abs_any _ _).mono ?_; rintro e w' ⟨rfl, rfl⟩)
  go_ret
  exact ⟨rfl, rfl⟩

theorem cop_cn (op : BinOp) (k : FloatKind) (x y : Nat) : cop op k (cn k x) (cn k y) = cop op k x y := by unfold cop; rw [floatBits_cn]
theorem cn_one : cn .f32 1065353216 = 1065353216 := by decide +kernel
theorem cn_nul : cn .f32 0 = 0 := by decide +kernel
theorem limC_cn (v : Nat) : limC (cn .f32 v) 0 1065353216 = limC v 0 1065353216 := by
  unfold limC cl
  have h1 := order_cn .f32 v 0
  have h2 := order_cn .f32 v 1065353216
  rw [cn_nul] at h1
  rw [cn_one] at h2
  rw [h1, h2, cn_cn]
theorem smC_cn (v : Nat) : smC (cn .f32 v) = smC v := by unfold smC; rw [limC_cn]
theorem cn_smC (v : Nat) : cn .f32 (smC v) = smC v := cn_cop ..

/-- What is left at a distance d beyond an edge. -/
def fadC (d S : Nat) : Nat := if (FloatKind.f32.format.order d S == some .lt) = true then cop .sub .f32 1065353216 (smC (cop .quo .f32 d S)) else 0
def beyC (d S : Nat) : Nat := if (FloatKind.f32.format.order d 0 == some .gt) = true then fadC d S else 1065353216
/-- A single whose Clean is v. -/
def GaveF (w : World) (v : Nat) (e : Ending) (w' : World) : Prop := ∃ b n, e = .returned (.float .f32 b) ∧ cl b = v ∧ w' = w.drewN n

theorem fading_any (d S : Nat) (w : World) : Calls Try.prog 77 #[.float .f32 d, .float .f32 S] w (GaveF w (fadC d S)) := by
  cases h : FloatKind.f32.format.order d S == some .lt
  · have HQ : RowKit.Hid (fadC d S = 0) := hid (by unfold fadC; rw [if_neg (by simp [h])])
    go_enter Try.func77, Try.ntmps77
    go_wp2
    go_ret
    exact ⟨_, 0, rfl, by rw [HQ.out]; exact cn_nul, rfl⟩
  · have HQ : RowKit.Hid (fadC d S = cop .sub .f32 1065353216 (smC (cop .quo .f32 d S))) := hid (by unfold fadC; rw [if_pos h])
    go_enter Try.func77, Try.ntmps77
    go_wp2_with (go_at_call 174; (with_reducible refine (smn_any _ _).mono ?_); rintro e w' ⟨rfl, n, rfl⟩)
    go_ret
    refine ⟨_, _, rfl, ?_, rfl⟩
    rw [HQ.out]
    unfold cl
    rw [cn_fop, cn_one, cn_smC, ← smC_cn, cn_fop, cop_cn]

theorem beyond_any (d S : Nat) (w : World) : Calls Try.prog 214 #[.float .f32 d, .float .f32 S] w (GaveF w (beyC d S)) := by
  cases h : FloatKind.f32.format.order d 0 == some .gt
  · have HQ : RowKit.Hid (beyC d S = 1065353216) := hid (by unfold beyC; rw [if_neg (by simp [h])])
    go_enter Try.func214, Try.ntmps214
    go_wp2
    go_ret
    exact ⟨_, 0, rfl, by rw [HQ.out]; exact cn_one, rfl⟩
  · have HQ : RowKit.Hid (beyC d S = fadC d S) := hid (by unfold beyC; rw [if_pos h])
    go_enter Try.func214, Try.ntmps214
    go_wp2_with (go_at_call 77; (with_reducible refine (fading_any _ _ _).mono ?_); rintro e w' ⟨b, n, rfl, hb, rfl⟩; have HB := hid hb; clear hb)
    go_ret
    exact ⟨_, _, rfl, by rw [HQ.out]; exact HB.out, rfl⟩

theorem fadC_cl (d S : Nat) : fadC (cl d) (cl S) = fadC d S := by
  unfold fadC cl
  rw [order_cn, cop_cn]
theorem beyC_cl (d S : Nat) (hS : cl S = S) : beyC (cl d) S = beyC d S := by
  unfold beyC
  have h1 := order_cn .f32 d 0
  rw [cn_nul] at h1
  unfold cl
  rw [h1]
  have := fadC_cl d S
  rw [hS] at this
  unfold cl at this
  rw [this]

/-- The greater one, as the builtin has it. -/
def mxo (o : Ordering) (x y : Nat) : Nat := match o with | .lt => y | .gt => x | .eq => if (FloatKind.f32.decode x).neg then y else x
def mno (o : Ordering) (x y : Nat) : Nat := match o with | .lt => x | .gt => y | .eq => if (FloatKind.f32.decode x).neg then x else y
theorem run_maxf {P : Program} {x y : Nat} {o : Ordering} (h : FloatKind.f32.format.order x y = some o) (ts : Array TypeId) (t : TypeId) (w : World) : (Builtin.max_ ts t #[.float .f32 x, .float .f32 y]).run P w = .ok (.float .f32 (mxo o x y)) w := by
  simp [Builtin.max_, Builtin.max2, h]
  cases o <;> rfl
theorem run_minf {P : Program} {x y : Nat} {o : Ordering} (h : FloatKind.f32.format.order x y = some o) (ts : Array TypeId) (t : TypeId) (w : World) : (Builtin.min_ ts t #[.float .f32 x, .float .f32 y]).run P w = .ok (.float .f32 (mno o x y)) w := by
  simp [Builtin.min_, Builtin.min2, h]
  cases o <;> rfl
/-- A single whose Clean is v, and what was there is as it was. -/
def GaveW (w : World) (v : Nat) (e : Ending) (w' : World) : Prop := ∃ b, e = .returned (.float .f32 b) ∧ cl b = v ∧ Below w.heap.size w w'

set_option maxRecDepth 100000 in
set_option maxHeartbeats 1000000 in
theorem box_any (K : Int) (X Y W H S : Nat) (A : Option Addr) (n c : Nat) (o : Bool) (fx fy : Nat) (w : World) {a b u v : Nat} {r : Ordering}
    (ha : floatBits .sub .f32 fx X = some a) (hb : floatBits .sub .f32 fy Y = some b) (hu : floatBits .sub .f32 (a % 2147483648) W = some u) (hv : floatBits .sub .f32 (b % 2147483648) H = some v)
    (hr : FloatKind.f32.format.order u v = some r) :
    Calls Try.prog 167 #[win K X Y W H S A n c o, .float .f32 fx, .float .f32 fy] w (GaveW w (beyC (mxo r u v) S)) := by
  have na := floatBits_not_nan ha
  have nb := floatBits_not_nan hb
  have NA := hid na
  have NB := hid nb
  have a1 := fopv ha
  have a2 := fdrv ha
  have b1 := fopv hb
  have b2 := fdrv hb
  have u1 := fopv hu
  have u2 := fdrv hu
  have v1 := fopv hv
  have v2 := fdrv hv
  have hm := fun ts t => run_maxf (P := Try.prog) hr ts t
  clear ha hb hu hv hr na nb
  generalize mxo r u v = M at *
  go_enter Try.func167, Try.ntmps167
  go_wp2_with fail
  go_quiet ((go_at_call 213; exact Calls.quiet_of_same (magn_any _ NA.out _)))
  obtain ⟨w1, hw1⟩ : ∃ w1, w1 = (w.alloc (.cells (winA K X Y W H S A n c o) 25)).drewN nq := ⟨_, rfl⟩
  rw [← hw1]
  have B1 : Blk w1 w.heap.size 25 (winA K X Y W H S A n c o) := by rw [hw1]; exact (Blk.new_at _ _ _ rfl).drewN _
  have E1 : Below w.heap.size w w1 := by rw [hw1]; exact below_drewN ((Below.refl _ _).alloc (Nat.le_refl _) _) _
  have l1 := B1.lt
  have g2 := B1.cell 2
  have g4 := B1.cell 4
  simp at g2 g4
  have HB := hid B1
  have HE := hid E1
  clear hw1 B1 E1
  go_wp2_with fail
  go_quiet ((go_at_call 213; exact Calls.quiet_of_same (magn_any _ NB.out _)))
  obtain ⟨w2, hw2⟩ : ∃ w2, w2 = w1.drewN nq := ⟨_, rfl⟩
  rw [← hw2]
  have B2 : Blk w2 w.heap.size 25 (winA K X Y W H S A n c o) := by rw [hw2]; exact HB.out.drewN _
  have E2 : Below w.heap.size w w2 := by rw [hw2]; exact below_drewN HE.out _
  have HE2 := hid E2
  have l2 := B2.lt
  have g5 := B2.cell 5
  simp at g5
  clear hw2 B2 E2 g2 g4 l1
  go_wp2_with fail
  go_wp2_with (go_at_call 214; (with_reducible refine (beyond_any _ _ _).mono ?_); rintro e w' ⟨b', n', rfl, hb', rfl⟩; have HB' := hid hb'; clear hb')
  go_ret
  exact ⟨_, rfl, HB'.out, below_drewN HE2.out _⟩
end Go.Proofs.Ytfeabmdioeelhaa
