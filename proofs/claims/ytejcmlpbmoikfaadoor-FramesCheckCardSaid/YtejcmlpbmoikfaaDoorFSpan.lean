/-
  span, blank, and transfer: a part of a frame put into another one.
-/
import Derived.Test.YtejcmlpbmoikfaaDoorFEach
import Derived.Test.YtejcmlpbmoikfaaDoorFFrom
namespace Go.Proofs.YtejcmlpbmoikfaaDoor
open Go.RowKit Go.Shelf
attribute [local go_sem] run_store_float

theorem part_le {p q i j a : Nat} (hi : i + a ≤ p) (hj : j < q) : p * j + i + a ≤ p * q := by
  have h : p * (j + 1) ≤ p * q := Nat.mul_le_mul_left p hj
  rw [Nat.mul_succ] at h
  omega

set_option maxRecDepth 100000 in
set_option maxHeartbeats 1000000 in
theorem span_any (X Y : Int) (p q n c b off i j a u : Nat) (w : World) (hu : u = 4 * (p * j + i)) (hi : i + a ≤ p) (hj : j < q) (ha : 0 < a) (hn : n = 4 * (p * q)) (hnc : n ≤ c) (hcm : c ≤ maxLen) (hp2 : p ≤ 256) (hq2 : q ≤ 256) (x1 : -1048576 ≤ X) (x2 : X ≤ 1048576) :
    Calls Tryd.prog 24 #[frm X Y p q (some ⟨b, off, none⟩) n c, .int .i64 (X + i), .int .i64 (Y + j), .int .i64 a] w fun e w' => e = .returned (.slice (some ⟨b, off + u, none⟩) (4 * a) (c - u)) ∧ Below w.heap.size w w' := by
  have hle := part_le hi hj
  have hpq : p * q ≤ 256 * 256 := Nat.mul_le_mul hp2 hq2
  obtain ⟨v, hv⟩ : ∃ v, v = p * j + i := ⟨_, rfl⟩
  have hpl := place_any X Y p q i j
  rw [← hv] at hpl hu
  have hu2 : u + 4 * a ≤ n := by omega
  have hu3 : (4 : Int) * (v : Int) = (u : Int) := by omega
  have u0 : (0 : Int) ≤ (u : Int) := by omega
  have u1 : (u : Int) + 4 * (a : Int) ≤ (n : Int) := by omega
  have u2 : (u : Int) + 4 * (a : Int) ≤ (c : Int) := by omega
  have u4 : (u : Int) ≤ 262144 := by omega
  have u5 : (a : Int) ≤ 256 := by omega
  have l4 : ¬ c = u := by omega
  have e5 : u + 4 * a - u = 4 * a := by omega
  unfold maxLen at hcm
  have HPL : RowKit.Hid (∀ w, Calls Tryd.prog 42 #[reg X Y p q, .int .i64 (X + i), .int .i64 (Y + j)] w fun e w' => e = .returned (.int .i64 (v : Nat)) ∧ Below w.heap.size w w') := hid fun w => hpl w (by omega) hj hp2 hq2 x1 x2
  clear hpl hv hu hn hle hpq
  go_enter Tryd.func24, Tryd.ntmps24
  go_wp2_with fail
  refine (HPL.out _).mono ?_
  rintro e w1 ⟨rfl, hb⟩
  have hx := boxed hb
  have HBE := hid (below_box hb)
  have c4 := hx.cell 4
  simp at c4
  clear hb hx
  go_wp2_with fail
  go_ret
  refine ⟨?_, HBE.out⟩
  show Ending.returned (.slice (some ⟨b, off + u, none⟩) (u + 4 * a - u) (c - u)) = _
  rw [e5]

/-- A new frame of zeros. -/
def Blanked (w : World) (X Y : Int) (p q n : Nat) (e : Ending) (w' : World) : Prop :=
  ∃ b, e = .returned (frm X Y p q (some ⟨b, 0, none⟩) n n) ∧ w.heap.size ≤ b ∧ w'.rowIs b 30 n (fun _ => .float .f32 0) ∧ Below w.heap.size w w'

theorem grown_trans2 {w w1 w2 : World} {r : Option Nat} (h : w.grownBy w1 r) (h' : w1.grownBy w2 r) : w.grownBy w2 r :=
  ⟨h'.os.trans h.os, h'.tape.trans h.tape, h'.output.trans h.output, Nat.le_trans h.size h'.size, fun k hk hr => (h'.block k (Nat.lt_of_lt_of_le hk h.size) hr).trans (h.block k hk hr)⟩
theorem grown_below {w w1 w2 : World} {r : Option Nat} (h : w.grownBy w1 r) (hb : Below w1.heap.size w1 w2) : w.grownBy w2 r :=
  grown_trans2 h ⟨hb.os, hb.tape, hb.output, hb.size, fun k hk _ => hb.block k hk⟩
theorem grown_set {w w1 : World} {S : Nat} (h : w.grownBy w1 (some S)) (k : Nat) (v : Value) : w.grownBy (w1.setCell ⟨S, k, none⟩ v) (some S) := by
  refine grown_trans2 h ⟨rfl, rfl, rfl, by simp [World.setCell], fun j _ hr => ?_⟩
  have : j ≠ S := fun e => hr (by rw [e])
  exact Below.heap_setCell w1 ⟨S, k, none⟩ v j (by simpa using this)

/-- A row with a run of singles put into it. -/
def rowUp (f : Nat → Nat) (base s : Nat) (v : Nat → Nat) : Nat → Nat := fun t => if base ≤ t ∧ t < base + s then v (t - base) else f t
theorem rowUp_zero (f : Nat → Nat) (base : Nat) (v : Nat → Nat) : rowUp f base 0 v = f := by
  funext t; unfold rowUp; rw [if_neg (by omega)]
/-- The first r rows of a part put into a frame. -/
def trF (f G : Nat → Nat) (p p' di dj ei ej a : Nat) : Nat → Nat → Nat
  | 0 => f
  | r + 1 => rowUp (trF f G p p' di dj ei ej a r) (4 * (p * (dj + r) + di)) (4 * a) (fun s => cl (G (4 * (p' * (ej + r) + ei) + s)))

/-- The relation of the loops of transfer. -/
structure TRl (w : World) (X Y X' Y' U V : Int) (p q n c S p' q' n' c' S' o' a b : Nat) (H : Nat → Nat) (wr : World) : Prop where
  row : wr.rowIs S 30 n (fun t => .float .f32 (H t))
  t0 : Blk wr w.heap.size 26 #[.int .i64 X, .int .i64 Y, .int .i64 p, .int .i64 q, .slice (some ⟨S, 0, none⟩) n c]
  t1 : Blk wr (w.heap.size + 1) 26 #[.int .i64 X', .int .i64 Y', .int .i64 p', .int .i64 q', .slice (some ⟨S', o', none⟩) n' c']
  t2 : Blk wr (w.heap.size + 2) 23 #[.int .i64 U, .int .i64 V, .int .i64 a, .int .i64 b]
  gr : w.grownBy wr (some S)
section
variable {w wr w1 : World} {X Y X' Y' U V : Int} {p q n c S p' q' n' c' S' o' a b : Nat} {H : Nat → Nat}
theorem TRl.below (h : TRl w X Y X' Y' U V p q n c S p' q' n' c' S' o' a b H wr) (hb : Below wr.heap.size wr w1) : TRl w X Y X' Y' U V p q n c S p' q' n' c' S' o' a b H w1 :=
  ⟨rowIs_below h.row hb h.row.lt, h.t0.below hb h.t0.lt, h.t1.below hb h.t1.lt, h.t2.below hb h.t2.lt, grown_below h.gr hb⟩
theorem TRl.step {f : Nat → Nat} {base s : Nat} {v : Nat → Nat} (hS : S < w.heap.size) (h : TRl w X Y X' Y' U V p q n c S p' q' n' c' S' o' a b (rowUp f base s v) wr) :
    TRl w X Y X' Y' U V p q n c S p' q' n' c' S' o' a b (rowUp f base (s + 1) v) (wr.setCell ⟨S, base + s, none⟩ (.float .f32 (v s))) := by
  refine ⟨World.rowIs.congr (h.row.set (base + s) _) (fun i _ => ?_), h.t0.far (by simp; omega) _, h.t1.far (by simp; omega) _, h.t2.far (by simp; omega) _, grown_set h.gr _ _⟩
  by_cases hik : i = base + s
  · subst hik; simp [rowUp]
  · unfold rowUp
    by_cases hb : base ≤ i ∧ i < base + s
    · simp [hik, hb, show base ≤ i ∧ i < base + (s + 1) by omega]
    · simp [hik, hb, show ¬ (base ≤ i ∧ i < base + (s + 1)) by omega]
end

end Go.Proofs.YtejcmlpbmoikfaaDoor
