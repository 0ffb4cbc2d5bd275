/-
  Compressing: facts on singles: differences that are above 0, quotients, the greatest of three.
-/
import Derived.Test.YthoiiccecneefaaQNn
import Derived.Test.YthoiiccecneefaaQDbl
namespace Go.Proofs.Ythoiiccecneefaa
open Go.RowKit Go.Shelf
open Ieee (Datum Format signed)

theorem isN_of_order {x y : Nat} {o : Ordering} (h : FloatKind.f32.format.order x y = some o) : isN .f32 x = false := by
  cases hx : isN .f32 x with
  | false => rfl
  | true => rw [order_nanl .f32 x y hx] at h; cases h

theorem sub_gt {d f : Nat} (hf : fin f = true) (h : FloatKind.f32.format.order d f = some .gt) : ∃ r, floatBits .sub .f32 d f = some r ∧ NN .f32 r := by
  obtain ⟨q, t, n, j, hr, _⟩ := fin_fv hf
  show ∃ r, Option.map _ ((FloatKind.f32.format.read d).sum (FloatKind.f32.format.read f).opposite) = some r ∧ _
  have h' := h
  unfold Format.order at h
  rw [hr] at h ⊢
  cases hd : FloatKind.f32.format.read d with
  | nan s t => rw [hd] at h; cases h
  | infinity s =>
    rw [hd] at h
    cases s with
    | false => exact ⟨_, rfl, write_nn .f32 _ rfl rfl⟩
    | true => cases h
  | number s m i =>
    have hlt : dv t n j < dv s m i := by
      have hx : Fv .f32 d (dv s m i) := ⟨s, m, i, hd, rfl⟩
      have hy : Fv .f32 f (dv t n j) := ⟨t, n, j, hr, rfl⟩
      rw [forder hx hy] at h'
      by_cases h1 : dv s m i < dv t n j
      · rw [if_pos h1] at h'; cases h'
      · rw [if_neg h1] at h'
        by_cases h2 : dv t n j < dv s m i
        · exact h2
        · rw [if_neg h2] at h'; cases h'
    obtain ⟨u, M, hs, hv⟩ := sum_val s (!t) m n i j
    rw [dv_neg] at hv
    have hu : u = false := by
      cases u with
      | false => rfl
      | true =>
        exfalso
        have hm := mag_nonneg M (min i j)
        unfold dv at hv
        rw [if_pos rfl] at hv
        unfold dv at hlt
        grind
    refine ⟨FloatKind.f32.format.write (.number u M (min i j)), ?_, write_nn .f32 _ rfl hu⟩
    show Option.map FloatKind.f32.format.write ((Datum.number s m i).sum (Datum.number (!t) n j)) = _
    rw [hs]; rfl

theorem quo_some {x y : Nat} {t : Bool} {n : Nat} {j : Int} (hx : isN .f32 x = false) (hy : FloatKind.f32.format.read y = .number t n j) (hn : n ≠ 0) : ∃ q, floatBits .quo .f32 x y = some q ∧ (NN .f32 x → t = false → NN .f32 q) := by
  show ∃ q, Option.map _ ((FloatKind.f32.format.read x).quotient 25 (FloatKind.f32.format.read y)) = some q ∧ _
  rw [hy]
  unfold isN at hx
  cases hd : FloatKind.f32.format.read x with
  | nan s t => rw [hd] at hx; cases hx
  | infinity s =>
    refine ⟨_, rfl, fun h ht => write_nn .f32 _ rfl ?_⟩
    have h2 := h.2
    rw [hd] at h2
    have h3 : s = false := h2
    show (s ^^ t) = false
    rw [h3, ht]; rfl
  | number s m i =>
    obtain ⟨A, B, hq⟩ : ∃ A B, (Datum.number s m i).quotient 25 (Datum.number t n j) = some (.number (s ^^ t) A B) := ⟨_, _, by show (if n = 0 then (if m = 0 then none else some (Datum.infinity (s ^^ t))) else _) = _; rw [if_neg hn]⟩
    refine ⟨_, by rw [hq]; rfl, fun h ht => write_nn .f32 _ rfl ?_⟩
    have h2 := h.2
    rw [hd] at h2
    have h3 : s = false := h2
    show (s ^^ t) = false
    rw [h3, ht]; rfl

theorem fv_1 : Fv .f32 1065353216 1 := ⟨false, 8388608, -23, by decide +kernel, by unfold dv pw; decide +kernel⟩
theorem fv_0 : Fv .f32 0 0 := ⟨false, 0, -149, by decide +kernel, by rw [dv_zero]⟩

/-- What order says of two numbers. -/
theorem ord_lt {x y : Nat} {a b : Rat} (hx : Fv .f32 x a) (hy : Fv .f32 y b) : (FloatKind.f32.format.order x y = some .lt ↔ a < b) ∧ (FloatKind.f32.format.order x y = some .gt ↔ b < a) ∧ (FloatKind.f32.format.order x y = some .eq ↔ a = b) := by
  rw [forder hx hy]
  by_cases h1 : a < b
  · rw [if_pos h1]
    exact ⟨⟨fun _ => h1, fun _ => rfl⟩, ⟨fun h => (by cases h), fun h => (by exfalso; grind)⟩, ⟨fun h => (by cases h), fun h => (by exfalso; grind)⟩⟩
  · rw [if_neg h1]
    by_cases h2 : b < a
    · rw [if_pos h2]
      exact ⟨⟨fun h => (by cases h), fun h => absurd h h1⟩, ⟨fun _ => h2, fun _ => rfl⟩, ⟨fun h => (by cases h), fun h => (by exfalso; grind)⟩⟩
    · rw [if_neg h2]
      exact ⟨⟨fun h => (by cases h), fun h => absurd h h1⟩, ⟨fun h => (by cases h), fun h => absurd h h2⟩, ⟨fun _ => (by grind), fun _ => rfl⟩⟩

theorem one_less {f : Nat} (hf : fin f = true) (h0 : FloatKind.f32.format.order f 0 = some .gt ∨ FloatKind.f32.format.order f 0 = some .eq) (h1 : FloatKind.f32.format.order f 1065353216 = some .lt) :
    (∃ n j, FloatKind.f32.format.read (cop .sub .f32 1065353216 f) = .number false n j ∧ n ≠ 0) ∧ floatBits .sub .f32 1065353216 f = some (cop .sub .f32 1065353216 f) := by
  obtain ⟨a, ha⟩ := fin_fv hf
  have a1 : a < 1 := ((ord_lt ha fv_1).1).1 h1
  have a0 : 0 ≤ a := by
    rcases h0 with h | h
    · have := ((ord_lt ha fv_0).2.1).1 h; grind
    · have := ((ord_lt ha fv_0).2.2).1 h; grind
  have hg : FloatKind.f32.format.order 1065353216 f = some .gt := ((ord_lt fv_1 ha).2.1).2 a1
  obtain ⟨r, hr, hnn⟩ := sub_gt hf hg
  have hc : cop .sub .f32 1065353216 f = r := cop_some hr
  have hp : (1 : Rat) < pw 127 := by unfold pw; decide +kernel
  obtain ⟨q, hq, hb, hn, _⟩ := fsub fv_1 ha (by grind) (by grind)
  obtain ⟨s, n, j, hrd, hv⟩ := hq
  refine ⟨⟨n, j, ?_, ?_⟩, by rw [hc]; exact hr⟩
  · rw [hrd]
    have h2 := hnn.2
    rw [← hc, hrd] at h2
    have h3 : s = false := h2
    rw [h3]
  · intro hz
    subst hz
    rw [dv_zero] at hv
    have := hb (1 - a) (by grind) (by grind)
    grind

/-- A number above 0. -/
theorem gt_zero {a : Nat} (hf : fin a = true) (h : FloatKind.f32.format.order a 0 = some .gt) : ∃ n j, FloatKind.f32.format.read a = .number false n j ∧ n ≠ 0 := by
  obtain ⟨q, s, n, j, hr, hv⟩ := fin_fv hf
  have h1 : 0 < q := ((ord_lt ⟨s, n, j, hr, hv⟩ fv_0).2.1).1 h
  cases s with
  | false =>
    refine ⟨n, j, hr, fun hz => ?_⟩
    subst hz
    rw [dv_zero] at hv
    grind
  | true =>
    exfalso
    have hm := mag_nonneg n j
    unfold dv at hv
    rw [if_pos rfl] at hv
    grind

theorem wid_lt (b : Nat) : wid b < 18446744073709551616 := Ieee.Format.write_lt Ieee.double _

/-- An infinity, by doubles and by singles. -/
theorem inf_same {x : Nat} (h : NN .f32 x) : infB (wid x) = (FloatKind.f32.format.order x 2139095039 == some .gt) := by
  have hm32 : Fv .f32 2139095039 (16777215 * pw 104) := ⟨false, 16777215, 104, by decide +kernel, by unfold dv; simp⟩
  obtain ⟨h1, h2⟩ := h
  cases hd : FloatKind.f32.format.read x with
  | nan s t => rw [hd] at h1; cases h1
  | infinity s =>
    rw [hd] at h2
    have h3 : s = false := h2
    subst h3
    have e1 : wid x = FloatKind.f64.format.write (.infinity false) := by
      show FloatKind.f64.format.write (FloatKind.f32.format.read x) = _
      rw [hd]
    rw [e1]
    have e2 : infB (FloatKind.f64.format.write (.infinity false)) = true := by decide +kernel
    rw [e2]
    unfold Format.order
    rw [hd]
    rfl
  | number s m p =>
    rw [hd] at h2
    have h3 : s = false := h2
    subst h3
    obtain ⟨b1, b2, b3⟩ := read32_num hd
    have hx : Fv .f32 x ((m : Rat) * pw p) := ⟨false, m, p, hd, by unfold dv; simp⟩
    have hm := mag_nonneg m p
    have hle : (m : Rat) * pw p ≤ 16777215 * pw 104 := by
      have e1 : pw p ≤ pw 104 := pw_le (by omega)
      have e2 : (m : Rat) ≤ 16777215 := by
        have : ((m : Nat) : Rat) ≤ ((16777215 : Nat) : Rat) := Rat.natCast_le_natCast.2 (by omega)
        simpa using this
      have e3 := Rat.mul_le_mul_of_nonneg_left e1 (show (0 : Rat) ≤ (m : Rat) from Rat.natCast_nonneg)
      have e4 := Rat.mul_le_mul_of_nonneg_right e2 (Rat.le_of_lt (pw_pos 104))
      grind
    have hw := abs_fv (wid_lt x) (wid_fv hx)
    rw [if_neg (by grind)] at hw
    have hm64 : Fv .f64 9218868437227405311 (9007199254740991 * pw 971) := ⟨false, 9007199254740991, 971, by decide +kernel, by unfold dv; simp⟩
    have hbig : 16777215 * pw 104 ≤ 9007199254740991 * pw 971 := by
      have e1 : pw 104 ≤ pw 971 := pw_le (by omega)
      have := pw_pos 971
      grind
    have r1 : infB (wid x) = false := by
      unfold infB
      rw [forder hw hm64]
      split
      · rfl
      · rw [if_neg (by grind)]; rfl
    rw [r1, forder hx hm32]
    split
    · rfl
    · rw [if_neg (by grind)]; rfl

/-! The greatest of three. -/
def mxo (o : Ordering) (x y : Nat) : Nat := match o with | .lt => y | .gt => x | .eq => if (FloatKind.f32.decode x).neg then y else x
def gtB (x y : Nat) : Bool := FloatKind.f32.format.order x y == some .gt
/-- The greatest as the reference has it. -/
def gre (x y z : Nat) : Nat := if gtB z (if gtB y x = true then y else x) = true then z else (if gtB y x = true then y else x)

/-- What the builtin gives of two, and how often it draws. -/
def mxv (x y : Nat) (w : World) : Nat := match FloatKind.f32.format.order x y with
  | none => (Question.nanMinMax .f32 true x y).cut (w.tape w.drawn (.nanMinMax .f32 true x y))
  | some o => mxo o x y
def mxn (x y : Nat) : Nat := match FloatKind.f32.format.order x y with
  | none => 1
  | some _ => 0
theorem run_mx (P : Program) (x y : Nat) (w : World) : (Builtin.max2 (.float .f32 x) (.float .f32 y)).run P w = .ok (.float .f32 (mxv x y w)) (w.drewN (mxn x y)) := by
  unfold mxv mxn
  cases h : FloatKind.f32.format.order x y with
  | none =>
    simp only [Builtin.max2, h]
    rw [Sem.run_bind, run_choose_drew]
    rfl
  | some o => cases o <;> simp [Builtin.max2, h] <;> exact ⟨rfl, rfl⟩
theorem run_mx3 (P : Program) (ts : Array TypeId) (t : TypeId) (x y z : Nat) (w : World) :
    (Builtin.max_ ts t #[.float .f32 x, .float .f32 y, .float .f32 z]).run P w = .ok (.float .f32 (mxv (mxv x y w) z (w.drewN (mxn x y)))) (w.drewN (mxn x y + mxn (mxv x y w) z)) := by
  show (List.foldlM Builtin.max2 (.float .f32 x) [.float .f32 y, .float .f32 z]).run P w = _
  rw [List.foldlM_cons, Sem.run_bind, run_mx]
  show (List.foldlM Builtin.max2 (.float .f32 (mxv x y w)) [.float .f32 z]).run P (w.drewN (mxn x y)) = _
  rw [List.foldlM_cons, Sem.run_bind, run_mx, World.drewN_drewN]
  rfl

theorem order_some {x y : Nat} (hx : isN .f32 x = false) (hy : isN .f32 y = false) : ∃ o, FloatKind.f32.format.order x y = some o := by
  unfold isN at hx hy
  unfold Format.order
  cases hd : FloatKind.f32.format.read x with
  | nan s t => rw [hd] at hx; cases hx
  | infinity s =>
    cases he : FloatKind.f32.format.read y with
    | nan s t => rw [he] at hy; cases hy
    | infinity t => exact ⟨_, rfl⟩
    | number t n j => exact ⟨_, rfl⟩
  | number s m i =>
    cases he : FloatKind.f32.format.read y with
    | nan s t => rw [he] at hy; cases hy
    | infinity t => exact ⟨_, rfl⟩
    | number t n j => exact ⟨_, rfl⟩

/-- The greater one of two numbers, by the builtin and by the reference. -/
theorem two_greatest {x y : Nat} {a b : Rat} (hx : Fv .f32 x a) (hy : Fv .f32 y b) : ∃ o m, FloatKind.f32.format.order x y = some o ∧ Fv .f32 (mxo o x y) m ∧ Fv .f32 (if gtB y x = true then y else x) m ∧ (0 < m → mxo o x y = if gtB y x = true then y else x) ∧ m = (if a < b then b else a) := by
  obtain ⟨l1, l2, l3⟩ := ord_lt hx hy
  obtain ⟨r1, r2, r3⟩ := ord_lt hy hx
  by_cases h1 : a < b
  · have hg : gtB y x = true := by unfold gtB; rw [r2.2 h1]; rfl
    refine ⟨.lt, b, l1.2 h1, hy, ?_, fun _ => ?_, by rw [if_pos h1]⟩
    · rw [if_pos hg]; exact hy
    · rw [if_pos hg]; rfl
  · by_cases h2 : b < a
    · have hg : gtB y x = false := by unfold gtB; rw [r1.2 h2]; rfl
      refine ⟨.gt, a, l2.2 h2, hx, ?_, fun _ => ?_, by rw [if_neg h1]⟩
      · rw [if_neg (by rw [hg]; simp)]; exact hx
      · rw [if_neg (by rw [hg]; simp)]; rfl
    · have h3 : a = b := by grind
      have hg : gtB y x = false := by unfold gtB; rw [r3.2 h3.symm]; rfl
      refine ⟨.eq, a, l3.2 h3, ?_, ?_, fun hp => ?_, by rw [if_neg h1]⟩
      · show Fv .f32 (if (FloatKind.f32.decode x).neg then y else x) a
        split
        · rw [h3]; exact hy
        · exact hx
      · rw [if_neg (by rw [hg]; simp)]; exact hx
      · rw [if_neg (by rw [hg]; simp)]
        show (if (FloatKind.f32.decode x).neg then y else x) = x
        obtain ⟨s, n, j, hr, hv⟩ := hx
        have hd : FloatKind.f32.decode x = .number s n j := hr
        rw [hd]
        cases s with
        | false => rfl
        | true =>
          exfalso
          have hm := mag_nonneg n j
          unfold dv at hv
          rw [if_pos rfl] at hv
          grind

theorem three_greatest {x y z : Nat} (hx : fin x = true) (hy : fin y = true) (hz : fin z = true) :
    ∃ M, (∀ ts t w, (Builtin.max_ ts t #[.float .f32 x, .float .f32 y, .float .f32 z]).run Try.prog w = .ok (.float .f32 M) w) ∧ fin M = true ∧ (gtB (gre x y z) 0 = true → M = gre x y z) ∧ gtB M 0 = gtB (gre x y z) 0 := by
  obtain ⟨a, ha⟩ := fin_fv hx
  obtain ⟨b, hb⟩ := fin_fv hy
  obtain ⟨c, hc⟩ := fin_fv hz
  obtain ⟨o, m, ho, hm, hm', he, hmv⟩ := two_greatest ha hb
  obtain ⟨o2, m2, ho2, hm2, hm2', he2, hmv2⟩ := two_greatest hm hc
  obtain ⟨o3, m3, ho3, hm3, hm3', he3, hmv3⟩ := two_greatest hm' hc
  have hm23 : m2 = m3 := by rw [hmv2, hmv3]
  have hrun : ∀ ts t w, (Builtin.max_ ts t #[.float .f32 x, .float .f32 y, .float .f32 z]).run Try.prog w = .ok (.float .f32 (mxo o2 (mxo o x y) z)) w := fun ts t w => by
    rw [run_mx3]
    have e1 : mxv x y w = mxo o x y := by unfold mxv; rw [ho]
    have e2 : mxn x y = 0 := by unfold mxn; rw [ho]
    have e3 : ∀ w, mxv (mxo o x y) z w = mxo o2 (mxo o x y) z := fun w => by unfold mxv; rw [ho2]
    have e4 : mxn (mxo o x y) z = 0 := by unfold mxn; rw [ho2]
    rw [e1, e2, e3, e4]
    rfl
  have hG : Fv .f32 (gre x y z) m3 := hm3'
  have hpos : ∀ v q, Fv .f32 v q → gtB v 0 = decide (0 < q) := fun v q h => by
    unfold gtB
    rw [forder h fv_0]
    by_cases h1 : q < 0
    · rw [if_pos h1, decide_eq_false (by grind)]; rfl
    · rw [if_neg h1]
      by_cases h2 : 0 < q
      · rw [if_pos h2, decide_eq_true h2]; rfl
      · rw [if_neg h2, decide_eq_false h2]; rfl
  refine ⟨_, hrun, fv_fin hm2, fun hg => ?_, by rw [hpos _ _ hm2, hpos _ _ hG, hm23]⟩
  rw [hpos _ _ hG] at hg
  have hp := of_decide_eq_true hg
  by_cases h1 : 0 < m
  · have e := he h1
    rw [he2 (by rw [hm23]; exact hp), e]
    rfl
  · have hc2 : m < c := by
      rw [hmv3] at hp
      by_cases h2 : m < c
      · exact h2
      · rw [if_neg h2] at hp; exact absurd hp h1
    have gtb : ∀ {u v : Nat}, FloatKind.f32.format.order u v = some .gt → gtB u v = true := fun h => by unfold gtB; rw [h]; rfl
    have g1 : gtB z (mxo o x y) = true := gtb (((ord_lt hc hm).2.1).2 hc2)
    have g2 : gtB z (if gtB y x = true then y else x) = true := gtb (((ord_lt hc hm').2.1).2 hc2)
    rw [he2 (by rw [hm23]; exact hp), if_pos g1]
    unfold gre
    rw [if_pos g2]
end Go.Proofs.Ythoiiccecneefaa
