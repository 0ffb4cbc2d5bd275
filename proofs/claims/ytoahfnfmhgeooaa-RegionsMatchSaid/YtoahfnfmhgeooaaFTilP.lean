/-
  Tiles as numbers: their places and sides, their cells as a row, and the sum of their pixels.
-/
import Derived.Test.YtoahfnfmhgeooaaFPlane
namespace Go.Proofs.Ytoahfnfmhgeooaa
open Go.RowKit

/-- Where a column begins, and how wide it is, within a side of a pixels from x. -/
def tl (x X0 s : Int) (i : Nat) : Int := max x (X0 + s * i)
def tw (x a X0 s : Int) (i : Nat) : Int := min (x + a) (X0 + s * i + s) - max x (X0 + s * i)
/-- What of a side lies in front of a column. -/
def tp (x a X0 s : Int) (i : Nat) : Int := min (x + a) (max x (X0 + s * i)) - x

/-- X0 is the multiple of s at or below x; n columns meet the side. -/
structure Cols (x a s X0 : Int) (n : Nat) : Prop where
  s1 : 1 ≤ s
  s2 : s ≤ 256
  a1 : 1 ≤ a
  a2 : a ≤ 256
  lo : X0 ≤ x
  hi : x < X0 + s
  n1 : 1 ≤ n
  n2 : n ≤ 257
  lt : ∀ i : Nat, X0 + s * i < x + a ↔ i < n

theorem cols_of {x a s : Int} (h1 : 1 ≤ s) (h2 : s ≤ 256) (h3 : 1 ≤ a) (h4 : a ≤ 256) : ∃ n, Cols x a s (x / s * s) n := by
  have m0 := Int.emod_nonneg x (show s ≠ 0 by omega)
  have m1 := Int.emod_lt_of_pos x (show 0 < s by omega)
  have m2 := Int.mul_ediv_add_emod x s
  have m3 : s * (x / s) = x / s * s := Int.mul_comm _ _
  obtain ⟨q, hq⟩ : ∃ q, q = x / s * s := ⟨_, rfl⟩
  rw [← hq] at m3 ⊢
  have l1 : q ≤ x := by omega
  have l2 : x < q + s := by omega
  obtain ⟨d, hd⟩ : ∃ d : Nat, (d : Int) = x + a - 1 - q := ⟨(x + a - 1 - q).toNat, by omega⟩
  obtain ⟨t, ht⟩ : ∃ t : Nat, (t : Int) = s := ⟨s.toNat, by omega⟩
  have key : ∀ i : Nat, q + s * i < x + a ↔ i < d / t + 1 := by
    intro i
    have e : i < d / t + 1 ↔ i * t ≤ d := by rw [Nat.lt_succ_iff, Nat.le_div_iff_mul_le (by omega)]
    rw [e]
    have e2 : s * (i : Int) = ((i * t : Nat) : Int) := by rw [← ht]; push_cast; exact Int.mul_comm _ _
    rw [e2]
    omega
  obtain ⟨g, hg⟩ : ∃ g, g = d / t := ⟨_, rfl⟩
  rw [← hg] at key
  refine ⟨g + 1, h1, h2, h3, h4, l1, l2, by omega, ?_, key⟩
  by_cases hc : g + 1 ≤ 257
  · exact hc
  · exfalso
    have k := (key 257).2 (by omega)
    have k2 : s * ((257 : Nat) : Int) = 257 * s := Int.mul_comm _ _
    rw [k2] at k
    omega

section
variable {x a s X0 : Int} {n : Nat}
theorem Cols.next (i : Nat) : X0 + s * ((i + 1 : Nat) : Int) = X0 + s * i + s := by
  push_cast; rw [Int.mul_add]; omega
theorem Cols.pos (h : Cols x a s X0 n) (i : Nat) : X0 ≤ X0 + s * i := by
  have := Int.mul_nonneg (show 0 ≤ s by have := h.s1; omega) (show (0 : Int) ≤ i by omega)
  omega
theorem Cols.ahead (h : Cols x a s X0 n) (i : Nat) : x < X0 + s * i + s := by
  have := h.pos i; have := h.hi; omega
theorem Cols.width (h : Cols x a s X0 n) {i : Nat} (hi : i < n) : 1 ≤ tw x a X0 s i ∧ tw x a X0 s i ≤ 256 := by
  have l1 := (h.lt i).2 hi
  have l2 := h.ahead i
  have := h.a1; have := h.a2; have := h.s1
  unfold tw; omega
theorem Cols.px0 (h : Cols x a s X0 n) : tp x a X0 s 0 = 0 := by
  have := h.lo; have := h.a1
  unfold tp; simp; omega
theorem Cols.px_step (h : Cols x a s X0 n) {i : Nat} (hi : i < n) : tp x a X0 s (i + 1) = tp x a X0 s i + tw x a X0 s i := by
  have l1 := (h.lt i).2 hi
  have l2 := h.ahead i
  have := h.a1; have := h.s1
  unfold tp tw; rw [Cols.next]; omega
theorem Cols.px_end (h : Cols x a s X0 n) : tp x a X0 s n = a := by
  have l1 : ¬ X0 + s * n < x + a := fun c => by have := (h.lt n).1 c; omega
  have := h.a1
  unfold tp; omega
end

/-- Sums of a row of integers. -/
def areas (f : Nat → Int) : Nat → Int
  | 0 => 0
  | k + 1 => areas f k + f k
theorem areas_grid (f : Nat → Int) (nc nr : Nat) (wx wy px py : Nat → Int) (x0 : px 0 = 0) (hx : ∀ i, i < nc → px (i + 1) = px i + wx i) (y0 : py 0 = 0) (hy : ∀ j, j < nr → py (j + 1) = py j + wy j)
    (hf : ∀ j i, j < nr → i < nc → f (nc * j + i) = wx i * wy j) : ∀ j, j ≤ nr → areas f (nc * j) = px nc * py j := by
  intro j
  induction j with
  | zero => intro _; simp [areas, y0]
  | succ j ih =>
    intro hj
    have hj' : j < nr := hj
    have step : ∀ i, i ≤ nc → areas f (nc * j + i) = px nc * py j + px i * wy j := by
      intro i
      induction i with
      | zero => intro _; rw [Nat.add_zero, ih (by omega), x0]; simp
      | succ i ihi =>
        intro hi
        show areas f (nc * j + i) + f (nc * j + i) = _
        rw [ihi (by omega), hf j i hj' (by omega), hx i (by omega), Int.add_mul]
        omega
    have e : nc * (j + 1) = nc * j + nc := by rw [Nat.mul_add, Nat.mul_one]
    rw [e, step nc (Nat.le_refl _), hy j hj', Int.mul_add]
theorem areas_bound (f : Nat → Int) (n : Nat) (h : ∀ k, k < n → 0 ≤ f k ∧ f k ≤ 65536) : ∀ k, k ≤ n → 0 ≤ areas f k ∧ areas f k ≤ 65536 * k := by
  intro k
  induction k with
  | zero => intro _; simp [areas]
  | succ k ih =>
    intro hk
    have h1 := ih (by omega)
    have h2 := h k (by omega)
    show 0 ≤ areas f k + f k ∧ areas f k + f k ≤ _
    omega

/-- The tile of a number, by columns. -/
structure TileIn (x y a b s X0 Y0 : Int) (nc nr : Nat) : Prop where
  cx : Cols x a s X0 nc
  cy : Cols y b s Y0 nr
def tX (x X0 s : Int) (nc k : Nat) : Int := tl x X0 s (k % nc)
def tY (y Y0 s : Int) (nc k : Nat) : Int := tl y Y0 s (k / nc)
def tW (x a X0 s : Int) (nc k : Nat) : Int := tw x a X0 s (k % nc)
def tH (y b Y0 s : Int) (nc k : Nat) : Int := tw y b Y0 s (k / nc)
theorem div_of {nc j i : Nat} (h : i < nc) : (nc * j + i) / nc = j := by
  rw [Nat.mul_add_div (by omega), Nat.div_eq_of_lt h, Nat.add_zero]
theorem mod_of {nc j i : Nat} (h : i < nc) : (nc * j + i) % nc = i := by
  rw [Nat.mul_add_mod, Nat.mod_eq_of_lt h]

/-- The cells of the first k tiles. -/
def tileL (x y a b s X0 Y0 : Int) (nc : Nat) : Nat → List Value
  | 0 => []
  | k + 1 => tileL x y a b s X0 Y0 nc k ++ [.int .i64 (tX x X0 s nc k), .int .i64 (tY y Y0 s nc k), .int .i64 (tW x a X0 s nc k), .int .i64 (tH y b Y0 s nc k)]
section
variable {x y a b s X0 Y0 : Int} {nc nr : Nat}
theorem tileL_length (k : Nat) : (tileL x y a b s X0 Y0 nc k).length = 4 * k := by
  induction k with
  | zero => rfl
  | succ k ih => simp [tileL, ih]; omega
theorem tileL_get {k : Nat} : ∀ n, k < n → (tileL x y a b s X0 Y0 nc n)[4 * k]? = some (.int .i64 (tX x X0 s nc k)) ∧ (tileL x y a b s X0 Y0 nc n)[4 * k + 1]? = some (.int .i64 (tY y Y0 s nc k)) ∧
    (tileL x y a b s X0 Y0 nc n)[4 * k + 2]? = some (.int .i64 (tW x a X0 s nc k)) ∧ (tileL x y a b s X0 Y0 nc n)[4 * k + 3]? = some (.int .i64 (tH y b Y0 s nc k)) := by
  intro n
  induction n with
  | zero => intro h; omega
  | succ n ih =>
    intro h
    have hl := tileL_length (x := x) (y := y) (a := a) (b := b) (s := s) (X0 := X0) (Y0 := Y0) (nc := nc) n
    unfold tileL
    by_cases hk : k < n
    · obtain ⟨h0, h1, h2, h3⟩ := ih hk
      refine ⟨?_, ?_, ?_, ?_⟩ <;> rw [List.getElem?_append_left (by omega)] <;> assumption
    · have hkn : k = n := by omega
      subst hkn
      refine ⟨?_, ?_, ?_, ?_⟩ <;> rw [List.getElem?_append_right (by omega), hl] <;> simp
theorem TileIn.sides (h : TileIn x y a b s X0 Y0 nc nr) {k : Nat} (hk : k < nc * nr) : 1 ≤ tW x a X0 s nc k ∧ tW x a X0 s nc k ≤ 256 ∧ 1 ≤ tH y b Y0 s nc k ∧ tH y b Y0 s nc k ≤ 256 := by
  have h1 : k % nc < nc := Nat.mod_lt _ h.cx.n1
  have h2 : k / nc < nr := Nat.div_lt_of_lt_mul hk
  have e1 := h.cx.width h1
  have e2 := h.cy.width h2
  exact ⟨e1.1, e1.2, e2.1, e2.2⟩
/-- The pixels of the first k tiles. -/
def tileN (x y a b s X0 Y0 : Int) (nc k : Nat) : Int := areas (fun k => tW x a X0 s nc k * tH y b Y0 s nc k) k
theorem TileIn.area (h : TileIn x y a b s X0 Y0 nc nr) {k : Nat} (hk : k < nc * nr) : 0 ≤ tW x a X0 s nc k * tH y b Y0 s nc k ∧ tW x a X0 s nc k * tH y b Y0 s nc k ≤ 65536 := by
  obtain ⟨h1, h2, h3, h4⟩ := h.sides hk
  have := prod_le h1 h2 h3 h4
  omega
theorem TileIn.count (h : TileIn x y a b s X0 Y0 nc nr) {k : Nat} (hk : k ≤ nc * nr) : 0 ≤ tileN x y a b s X0 Y0 nc k ∧ tileN x y a b s X0 Y0 nc k ≤ 65536 * k :=
  areas_bound _ _ (fun _ hk => h.area hk) k hk
theorem tileN_succ (k : Nat) : tileN x y a b s X0 Y0 nc (k + 1) = tileN x y a b s X0 Y0 nc k + tW x a X0 s nc k * tH y b Y0 s nc k := rfl
theorem TileIn.all (h : TileIn x y a b s X0 Y0 nc nr) : tileN x y a b s X0 Y0 nc (nc * nr) = a * b := by
  have e := areas_grid (fun k => tW x a X0 s nc k * tH y b Y0 s nc k) nc nr (tw x a X0 s) (tw y b Y0 s) (tp x a X0 s) (tp y b Y0 s) h.cx.px0 (fun i hi => h.cx.px_step hi) h.cy.px0 (fun i hi => h.cy.px_step hi)
    (fun j i hj hi => by simp only [tW, tH, div_of hi, mod_of hi]) nr (Nat.le_refl _)
  rw [h.cx.px_end, h.cy.px_end] at e
  exact e
theorem TileIn.many (h : TileIn x y a b s X0 Y0 nc nr) : nc * nr ≤ 66049 := Nat.mul_le_mul h.cx.n2 h.cy.n2
end
end Go.Proofs.Ytoahfnfmhgeooaa
