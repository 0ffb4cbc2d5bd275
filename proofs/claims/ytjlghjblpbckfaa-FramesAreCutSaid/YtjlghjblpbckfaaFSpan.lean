/-
  span, blank, and transfer: a part of a frame put into another one.
-/
import Derived.Test.YtjlghjblpbckfaaFEach
import Derived.Test.YtjlghjblpbckfaaFFrom
namespace Go.Proofs.Ytjlghjblpbckfaa
open Go.RowKit Go.Shelf
attribute [local go_sem] run_store_float

theorem part_le {p q i j a : Nat} (hi : i + a ≤ p) (hj : j < q) : p * j + i + a ≤ p * q := by
  have h : p * (j + 1) ≤ p * q := Nat.mul_le_mul_left p hj
  rw [Nat.mul_succ] at h
  omega

set_option maxRecDepth 100000 in
set_option maxHeartbeats 1000000 in
theorem span_any (X Y : Int) (p q n c b off i j a u : Nat) (w : World) (hu : u = 4 * (p * j + i)) (hi : i + a ≤ p) (hj : j < q) (ha : 0 < a) (hn : n = 4 * (p * q)) (hnc : n ≤ c) (hcm : c ≤ maxLen) (hp2 : p ≤ 256) (hq2 : q ≤ 256) (x1 : -1048576 ≤ X) (x2 : X ≤ 1048576) :
    Calls Try.prog 67 #[frm X Y p q (some ⟨b, off, none⟩) n c, .int .i64 (X + i), .int .i64 (Y + j), .int .i64 a] w fun e w' => e = .returned (.slice (some ⟨b, off + u, none⟩) (4 * a) (c - u)) ∧ Below w.heap.size w w' := by
  have hle := part_le hi hj
  have hpq : p * q ≤ 256 * 256 := Nat.mul_le_mul hp2 hq2
  obtain ⟨v, hv⟩ : ∃ v, v = p * j + i := ⟨_, rfl⟩
  have hpl := place_any X Y p q i j
  rw [← hv] at hpl hu
  have hu2 : u + 4 * a ≤ n := by omega
  have hu3 : (4 : Int) * (v : Int) = (u : Int) := by omega
  have u0 : (0 : Int) ≤ (u : Int) := by omega
  have u1 : (u : Int) + 4 * (a : Int) ≤ (n : Int) := by omega
  have u2 : (u : Int) + 4 * (a : Int) ≤ (c : Int) := by omega
  have u4 : (u : Int) ≤ 262144 := by omega
  have u5 : (a : Int) ≤ 256 := by omega
  have l4 : ¬ c = u := by omega
  have e5 : u + 4 * a - u = 4 * a := by omega
  unfold maxLen at hcm
  have HPL : RowKit.Hid (∀ w, Calls Try.prog 88 #[reg X Y p q, .int .i64 (X + i), .int .i64 (Y + j)] w fun e w' => e = .returned (.int .i64 (v : Nat)) ∧ Below w.heap.size w w') := hid fun w => hpl w (by omega) hj hp2 hq2 x1 x2
  clear hpl hv hu hn hle hpq
  go_enter Try.func67, Try.ntmps67
  go_wp2_with fail
  refine (HPL.out _).mono ?_
  rintro e w1 ⟨rfl, hb⟩
  have hx := boxed hb
  have HBE := hid (below_box hb)
  have c4 := hx.cell 4
  simp at c4
  clear hb hx
  go_wp2_with fail
  go_ret
  refine ⟨?_, HBE.out⟩
  show Ending.returned (.slice (some ⟨b, off + u, none⟩) (u + 4 * a - u) (c - u)) = _
  rw [e5]

/-- A new frame of zeros. -/
def Blanked (w : World) (X Y : Int) (p q n : Nat) (e : Ending) (w' : World) : Prop :=
  ∃ b, e = .returned (frm X Y p q (some ⟨b, 0, none⟩) n n) ∧ w.heap.size ≤ b ∧ w'.rowIs b 40 n (fun _ => .float .f32 0) ∧ Below w.heap.size w w'

set_option maxRecDepth 100000 in
set_option maxHeartbeats 1000000 in
theorem blank_any (X Y : Int) (p q n : Nat) (w : World) (hn : n = 4 * (p * q)) (hn2 : n ≤ 65536) (hp2 : p ≤ 256) : Calls Try.prog 74 #[reg X Y p q] w (Blanked w X Y p q n) := by
  have h4 : (4 : Int) * (p : Int) * (q : Int) = (n : Int) := by rw [hn, Int.mul_assoc]; simp
  have hmk := run_make_row' (P := Try.prog) 37 40 (.float .f32 0) 4 Try.underlying37 info_f32 rfl .i64 .i64 n (by omega) (by omega)
  clear hn
  go_enter Try.func74, Try.ntmps74
  go_wp2_with fail
  obtain ⟨wb, hwb⟩ : ∃ wb, wb = (w.alloc (.cells #[.int .i64 X, .int .i64 Y, .int .i64 p, .int .i64 q] 23)).alloc (.cells zfrm 39) := ⟨_, rfl⟩
  have b0 : Blk wb w.heap.size 23 #[.int .i64 X, .int .i64 Y, .int .i64 p, .int .i64 q] := by rw [hwb]; exact (Blk.new_at _ _ _ rfl).alloc _
  have b1 : Blk wb (w.heap.size + 1) 39 zfrm := by rw [hwb]; exact Blk.new_at _ _ _ (by simp)
  have hbe : Below w.heap.size w wb := by rw [hwb]; exact ((Below.refl _ _).alloc (Nat.le_refl _) _).alloc (by simp) _
  rw [← hwb]
  have e0 := b0.cell 0
  have e1 := b0.cell 1
  have e2 := b0.cell 2
  have e3 := b0.cell 3
  have z0 := b1.cell 0
  have z1 := b1.cell 1
  have z2 := b1.cell 2
  have z3 := b1.cell 3
  have z4 := b1.cell 4
  have fz := fun i => b1.frozen i
  simp at e0 e1 e2 e3 z0 z1 z2 z3 z4
  have l1 := b1.lt
  have HB1 := hid b1
  have HBE := hid hbe
  have h5 : IntKind.i64.wrap (4 * (p : Int)) = 4 * (p : Int) := by rw [IntKind.wrap_i64]; omega
  have h6 : IntKind.i64.wrap (n : Int) = (n : Int) := by rw [IntKind.wrap_i64]; omega
  clear b0 b1 hbe hwb
  go_region_held3 (fun w' => w'.cell? ⟨w.heap.size, 0, none⟩ = some (.int .i64 X) ∧ w'.cell? ⟨w.heap.size, 1, none⟩ = some (.int .i64 Y) ∧ w'.cell? ⟨w.heap.size, 2, none⟩ = some (.int .i64 p) ∧ w'.cell? ⟨w.heap.size, 3, none⟩ = some (.int .i64 q)) (go_keep) (fail)
  all_goals
    rename_i hH
    clear hH
    go_wp2_with fail
    have hblk := ((HB1.out.set5 (.int .i64 X) (.int .i64 Y) (.int .i64 p) (.int .i64 q) (.slice (some ⟨wb.heap.size, 0, none⟩) n n)).alloc (.cells (madeCells #[.float .f32 0] n) 40)).drewN 1
    refine bodyPost_ret (v := frm X Y p q (some ⟨wb.heap.size, 0, none⟩) n n) (results_cell_row rfl _ _ _ _ _ _ _ rfl hblk Try.underlying39 rfl (by kernel_rfl)) rfl ?_
    have hs := HBE.out.size
    have hrow := (rowIs_made_at (((((wb.setCell ⟨w.heap.size + 1, 0, none⟩ (.int .i64 X)).setCell ⟨w.heap.size + 1, 1, none⟩ (.int .i64 Y)).setCell ⟨w.heap.size + 1, 2, none⟩ (.int .i64 p)).setCell ⟨w.heap.size + 1, 3, none⟩ (.int .i64 q)).setCell ⟨w.heap.size + 1, 4, none⟩ (.slice (some ⟨wb.heap.size, 0, none⟩) n n)) (.float .f32 0) n 40 (size_set5 _ _ _ _ _ _ _).symm).drew
    exact ⟨wb.heap.size, rfl, hs, hrow, ((below_set5 HBE.out (by omega) _ _ _ _ _).alloc (by rw [size_set5]; exact hs) _).drew⟩

theorem grown_trans2 {w w1 w2 : World} {r : Option Nat} (h : w.grownBy w1 r) (h' : w1.grownBy w2 r) : w.grownBy w2 r :=
  ⟨h'.os.trans h.os, h'.tape.trans h.tape, h'.output.trans h.output, Nat.le_trans h.size h'.size, fun k hk hr => (h'.block k (Nat.lt_of_lt_of_le hk h.size) hr).trans (h.block k hk hr)⟩
theorem grown_below {w w1 w2 : World} {r : Option Nat} (h : w.grownBy w1 r) (hb : Below w1.heap.size w1 w2) : w.grownBy w2 r :=
  grown_trans2 h ⟨hb.os, hb.tape, hb.output, hb.size, fun k hk _ => hb.block k hk⟩
theorem grown_set {w w1 : World} {S : Nat} (h : w.grownBy w1 (some S)) (k : Nat) (v : Value) : w.grownBy (w1.setCell ⟨S, k, none⟩ v) (some S) := by
  refine grown_trans2 h ⟨rfl, rfl, rfl, by simp [World.setCell], fun j _ hr => ?_⟩
  have : j ≠ S := fun e => hr (by rw [e])
  exact Below.heap_setCell w1 ⟨S, k, none⟩ v j (by simpa using this)

/-- A row with a run of singles put into it. -/
def rowUp (f : Nat → Nat) (base s : Nat) (v : Nat → Nat) : Nat → Nat := fun t => if base ≤ t ∧ t < base + s then v (t - base) else f t
theorem rowUp_zero (f : Nat → Nat) (base : Nat) (v : Nat → Nat) : rowUp f base 0 v = f := by
  funext t; unfold rowUp; rw [if_neg (by omega)]
/-- The first r rows of a part put into a frame. -/
def trF (f G : Nat → Nat) (p p' di dj ei ej a : Nat) : Nat → Nat → Nat
  | 0 => f
  | r + 1 => rowUp (trF f G p p' di dj ei ej a r) (4 * (p * (dj + r) + di)) (4 * a) (fun s => cl (G (4 * (p' * (ej + r) + ei) + s)))

/-- The relation of the loops of transfer. -/
structure TRl (w : World) (X Y X' Y' U V : Int) (p q n c S p' q' n' c' S' o' a b : Nat) (H : Nat → Nat) (wr : World) : Prop where
  row : wr.rowIs S 40 n (fun t => .float .f32 (H t))
  t0 : Blk wr w.heap.size 39 #[.int .i64 X, .int .i64 Y, .int .i64 p, .int .i64 q, .slice (some ⟨S, 0, none⟩) n c]
  t1 : Blk wr (w.heap.size + 1) 39 #[.int .i64 X', .int .i64 Y', .int .i64 p', .int .i64 q', .slice (some ⟨S', o', none⟩) n' c']
  t2 : Blk wr (w.heap.size + 2) 23 #[.int .i64 U, .int .i64 V, .int .i64 a, .int .i64 b]
  gr : w.grownBy wr (some S)
section
variable {w wr w1 : World} {X Y X' Y' U V : Int} {p q n c S p' q' n' c' S' o' a b : Nat} {H : Nat → Nat}
theorem TRl.below (h : TRl w X Y X' Y' U V p q n c S p' q' n' c' S' o' a b H wr) (hb : Below wr.heap.size wr w1) : TRl w X Y X' Y' U V p q n c S p' q' n' c' S' o' a b H w1 :=
  ⟨rowIs_below h.row hb h.row.lt, h.t0.below hb h.t0.lt, h.t1.below hb h.t1.lt, h.t2.below hb h.t2.lt, grown_below h.gr hb⟩
theorem TRl.step {f : Nat → Nat} {base s : Nat} {v : Nat → Nat} (hS : S < w.heap.size) (h : TRl w X Y X' Y' U V p q n c S p' q' n' c' S' o' a b (rowUp f base s v) wr) :
    TRl w X Y X' Y' U V p q n c S p' q' n' c' S' o' a b (rowUp f base (s + 1) v) (wr.setCell ⟨S, base + s, none⟩ (.float .f32 (v s))) := by
  refine ⟨World.rowIs.congr (h.row.set (base + s) _) (fun i _ => ?_), h.t0.far (by simp; omega) _, h.t1.far (by simp; omega) _, h.t2.far (by simp; omega) _, grown_set h.gr _ _⟩
  by_cases hik : i = base + s
  · subst hik; simp [rowUp]
  · unfold rowUp
    by_cases hb : base ≤ i ∧ i < base + s
    · simp [hik, hb, show base ≤ i ∧ i < base + (s + 1) by omega]
    · simp [hik, hb, show ¬ (base ≤ i ∧ i < base + (s + 1)) by omega]
end

set_option maxRecDepth 100000 in
set_option maxHeartbeats 4000000 in
theorem transfer_any (X Y X' Y' U V : Int) (p q n c S p' q' n' c' S' o' di dj ei ej a b : Nat) (f G : Nat → Nat) (w : World) (hU : U = X + di) (hU' : U = X' + ei) (hV : V = Y + dj) (hV' : V = Y' + ej) (ha : 0 < a) (hia : di + a ≤ p) (hjb : dj + b ≤ q) (hia' : ei + a ≤ p') (hjb' : ej + b ≤ q')
    (hn : n = 4 * (p * q)) (hnc : n ≤ c) (hcm : c ≤ maxLen) (hn' : n' = 4 * (p' * q')) (hnc' : n' ≤ c') (hcm' : c' ≤ maxLen) (hp : p ≤ 256) (hq : q ≤ 256) (hp' : p' ≤ 256) (hq' : q' ≤ 256) (x1 : -1048576 ≤ X) (x2 : X ≤ 1048576) (x1' : -1048576 ≤ X') (x2' : X' ≤ 1048576) (y1 : -1048576 ≤ Y) (y2 : Y ≤ 1048576)
    (hS : S < w.heap.size) (hne : S ≠ S') (hrow : w.rowIs S 40 n (fun t => .float .f32 (f t))) (hG : Rd w S' o' n' G) :
    Calls Try.prog 75 #[frm X Y p q (some ⟨S, 0, none⟩) n c, frm X' Y' p' q' (some ⟨S', o', none⟩) n' c', reg U V a b] w fun e w' => e = .returned (.tuple #[]) ∧ w'.rowIs S 40 n (fun t => .float .f32 (trF f G p p' di dj ei ej a b t)) ∧ w.grownBy w' (some S) := by
  have H0 : TRl w X Y X' Y' U V p q n c S p' q' n' c' S' o' a b (trF f G p p' di dj ei ej a 0) (((w.alloc (.cells #[.int .i64 X, .int .i64 Y, .int .i64 p, .int .i64 q, .slice (some ⟨S, 0, none⟩) n c] 39)).alloc (.cells #[.int .i64 X', .int .i64 Y', .int .i64 p', .int .i64 q', .slice (some ⟨S', o', none⟩) n' c'] 39)).alloc (.cells #[.int .i64 U, .int .i64 V, .int .i64 a, .int .i64 b] 23)) := by
    have hb : Below w.heap.size w (((w.alloc (.cells #[.int .i64 X, .int .i64 Y, .int .i64 p, .int .i64 q, .slice (some ⟨S, 0, none⟩) n c] 39)).alloc (.cells #[.int .i64 X', .int .i64 Y', .int .i64 p', .int .i64 q', .slice (some ⟨S', o', none⟩) n' c'] 39)).alloc (.cells #[.int .i64 U, .int .i64 V, .int .i64 a, .int .i64 b] 23)) := (((Below.refl _ _).alloc (Nat.le_refl _) _).alloc (by simp) _).alloc (by simp; omega) _
    exact ⟨rowIs_below hrow hb hS, ((Blk.new_at _ _ _ rfl).alloc _).alloc _, (Blk.new_at _ _ _ (by simp)).alloc _, Blk.new_at _ _ _ (by simp), grown_below (World.grownBy.refl _ _) hb⟩
  have H0' := hid H0
  have HG := hid hG
  have HSP : RowKit.Hid (∀ (r : Nat) (w : World), r < b → Calls Try.prog 67 #[frm X Y p q (some ⟨S, 0, none⟩) n c, .int .i64 U, .int .i64 (V + r), .int .i64 a] w fun e w' => e = .returned (.slice (some ⟨S, 4 * (p * (dj + r) + di), none⟩) (4 * a) (c - 4 * (p * (dj + r) + di))) ∧ Below w.heap.size w w') := hid fun r w hr => by
    have := span_any X Y p q n c S 0 di (dj + r) a _ w rfl hia (by omega) ha hn hnc hcm hp hq x1 x2
    rw [Nat.zero_add, ← hU, show Y + ((dj + r : Nat) : Int) = V + r by rw [hV]; push_cast; omega] at this
    exact this
  have HSP' : RowKit.Hid (∀ (r : Nat) (w : World), r < b → Calls Try.prog 67 #[frm X' Y' p' q' (some ⟨S', o', none⟩) n' c', .int .i64 U, .int .i64 (V + r), .int .i64 a] w fun e w' => e = .returned (.slice (some ⟨S', o' + 4 * (p' * (ej + r) + ei), none⟩) (4 * a) (c' - 4 * (p' * (ej + r) + ei))) ∧ Below w.heap.size w w') := hid fun r w hr => by
    have := span_any X' Y' p' q' n' c' S' o' ei (ej + r) a _ w rfl hia' (by omega) ha hn' hnc' hcm' hp' hq' x1' x2'
    rw [← hU', show Y' + ((ej + r : Nat) : Int) = V + r by rw [hV']; push_cast; omega] at this
    exact this
  have HB : RowKit.Hid (∀ r, r < b → 4 * (p * (dj + r) + di) + 4 * a ≤ n ∧ 4 * (p' * (ej + r) + ei) + 4 * a ≤ n') := hid fun r hr => by
    have h1 := part_le (q := q) hia (show dj + r < q by omega)
    have h2 := part_le (q := q') hia' (show ej + r < q' by omega)
    omega
  have HBD : RowKit.Hid (a ≤ 256 ∧ b ≤ 256 ∧ n ≤ 262144 ∧ n' ≤ 262144) := by
    have h1 : p * q ≤ 256 * 256 := Nat.mul_le_mul hp hq
    have h2 : p' * q' ≤ 256 * 256 := Nat.mul_le_mul hp' hq'
    exact hid ⟨by omega, by omega, by omega, by omega⟩
  have v1 : -1048576 ≤ V := by omega
  have v2 : V ≤ 1048576 + 256 := by omega
  have b2 : (b : Int) ≤ 256 := by omega
  have a2 : (a : Int) ≤ 256 := by omega
  clear H0 hU hU' hV hV' hia hjb hia' hjb' hn hnc hcm hn' hnc' hcm' hp hq hp' hq' x1 x2 x1' x2' y1 y2 hrow hG
  go_enter Try.func75, Try.ntmps75
  go_wp2_with fail
  go_loopw [6] (fun i wr => ∃ r : Nat, r ≤ b ∧ i = .int .i64 (V + r) ∧ TRl w X Y X' Y' U V p q n c S p' q' n' c' S' o' a b (trF f G p p' di dj ei ej a r) wr) (fun i _ => (V + b - intOf i).toNat)
  case atStart => exact ⟨0, Nat.zero_le _, by simp, H0'.out⟩
  case round =>
    clear H0'
    obtain ⟨r, hr, rfl, hrel⟩ := hrel
    have HL := hid hrel
    have c0 := hrel.t0.cell 0
    have c1 := hrel.t0.cell 1
    have c2 := hrel.t0.cell 2
    have c3 := hrel.t0.cell 3
    have c4 := hrel.t0.cell 4
    have d0 := hrel.t2.cell 0
    have d1 := hrel.t2.cell 1
    have d2 := hrel.t2.cell 2
    have d3 := hrel.t2.cell 3
    simp at c0 c1 c2 c3 c4 d0 d1 d2 d3
    clear hrel
    by_cases hrb : r < b
    · go_wp2_with fail
      refine (HSP.out r _ hrb).mono ?_
      rintro e w1 ⟨rfl, hb1⟩
      have HL1 := hid (HL.out.below hb1)
      clear c0 c1 c2 c3 c4 d0 d1 d2 d3 hb1 HL
      have c0 := HL1.out.t1.cell 0
      have c1 := HL1.out.t1.cell 1
      have c2 := HL1.out.t1.cell 2
      have c3 := HL1.out.t1.cell 3
      have c4 := HL1.out.t1.cell 4
      have d0 := HL1.out.t2.cell 0
      have d2 := HL1.out.t2.cell 2
      simp at c0 c1 c2 c3 c4 d0 d2
      go_wp2_with fail
      refine (HSP'.out r _ hrb).mono ?_
      rintro e w2 ⟨rfl, hb2⟩
      have HL2 := hid (HL1.out.below hb2)
      clear c0 c1 c2 c3 c4 d0 d2 hb2 HL1
      obtain ⟨g1, g2⟩ := HB.out r hrb
      obtain ⟨u1, hu1⟩ : ∃ u, u = 4 * (p * (dj + r) + di) := ⟨_, rfl⟩
      obtain ⟨u2, hu2⟩ : ∃ u, u = 4 * (p' * (ej + r) + ei) := ⟨_, rfl⟩
      rw [← hu1] at g1
      rw [← hu2] at g2
      rw [← hu1, ← hu2]
      have HU1 := hid hu1
      have HU2 := hid hu2
      clear hu1 hu2
      go_wp2_with fail
      go_loopw [36] (fun i wr => ∃ k : Nat, k ≤ 4 * a ∧ i = .int .i64 k ∧ TRl w X Y X' Y' U V p q n c S p' q' n' c' S' o' a b (rowUp (trF f G p p' di dj ei ej a r) u1 k (fun s => cl (G (u2 + s)))) wr) (fun i _ => 4 * a - (intOf i).toNat)
      case atStart => exact ⟨0, Nat.zero_le _, rfl, by rw [rowUp_zero]; exact HL2.out⟩
      case round =>
        clear HL2
        obtain ⟨k, hk, rfl, hrel⟩ := hrel
        have HL := hid hrel
        by_cases hka : k < 4 * a
        · have hsrc := hrel.gr.cell (HG.out (u2 + k) (by omega)) (by simpa using fun e => hne e.symm)
          rw [← Nat.add_assoc] at hsrc
          have hcl := hrel.row.cell (i := u1 + k) (by omega)
          have hfr := hrel.row.frozen (u1 + k)
          have k1 : (0 : Int) ≤ (k : Int) := by omega
          have k2 : (k : Int) < 4 * (a : Int) := by omega
          clear hrel
          go_wp2_with (go_at_call 68; refine (clean_any _ _).mono ?_; rintro e w' ⟨rfl, rfl⟩)
          go_roundw
          case rel => exact ⟨k + 1, by omega, by go_num, HL.out.step hS⟩
          case measure => simp [intOf]; omega
        · have hk4 : k = 4 * a := by omega
          subst hk4
          clear hrel
          go_wp2_with fail
          go_roundw
          case rel => exact ⟨r + 1, by omega, by go_num, by
            show TRl w X Y X' Y' U V p q n c S p' q' n' c' S' o' a b (rowUp (trF f G p p' di dj ei ej a r) (4 * (p * (dj + r) + di)) (4 * a) (fun s => cl (G (4 * (p' * (ej + r) + ei) + s)))) _
            rw [← HU1.out, ← HU2.out]; exact HL.out⟩
          case measure => simp [intOf]; omega
    · have hr5 : r = b := by omega
      subst hr5
      go_wp2_with fail
      go_end0
      exact ⟨rfl, HL.out.row, HL.out.gr⟩
end Go.Proofs.Ytjlghjblpbckfaa
