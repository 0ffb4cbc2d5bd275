/-
  Cubes: tetra.
-/
import Derived.Test.YthnbfllhmjpbjaaKTet2
import Derived.Deep.DeepCutAuto
import Derived.Deep.RegionHeld3
namespace Go.Proofs.Ythnbfllhmjpbjaa
open Go.RowKit
attribute [local go_sem] run_store_float

theorem srt_perm (g : Nat → Nat → Bool) : (∀ m, m < 3 → srtF g (fun i => i) 2 m < 3) ∧ srtF g (fun i => i) 2 0 ≠ srtF g (fun i => i) 2 1 ∧ srtF g (fun i => i) 2 0 ≠ srtF g (fun i => i) 2 2 ∧ srtF g (fun i => i) 2 1 ≠ srtF g (fun i => i) 2 2 := by
  have h : ∀ m, m < 3 → m = 0 ∨ m = 1 ∨ m = 2 := fun m _ => by omega
  refine ⟨fun m hm => ?_, ?_, ?_, ?_⟩
  · cases h1 : g 1 0 <;> cases h2 : g 2 0 <;> cases h3 : g 2 1 <;> rcases h m hm with rfl | rfl | rfl <;> simp [srtF, insF, swp, h1, h2, h3]
  all_goals cases h1 : g 1 0 <;> cases h2 : g 2 0 <;> cases h3 : g 2 1 <;> simp [srtF, insF, swp, h1, h2, h3]

/-- What the formula makes of each colour of the corners. -/
def G (s t u : Nat) (e : Nat → Nat → Nat) (i : Nat) : Nat := fmC (cl (e 0 i)) (cl (e 1 i)) (cl (e 2 i)) (cl (e 3 i)) (cl s) (cl t) (cl u)
/-- The corners' places, from one on, an axis a step. -/
def stp (a o : Nat → Nat) : Nat → (Nat → Nat)
  | 0 => a
  | m + 1 => fun ax => if ax = o m then stp a o m ax + 1 else stp a o m ax
def ordO (x : Nat → Nat) : Nat → Nat := srtF (gOf fun i j => cmpC (x j) (x i)) (fun i => i) 2
/-- A corner's value. -/
def corE (s : Nat) (F a o : Nat → Nat) (m i : Nat) : Nat := F (eIx s (stp a o m 0) (stp a o m 1) (stp a o m 2) + i)
/-- What tetra makes of the corners. -/
def tetV (e : Nat → Nat → Nat) (s t u i : Nat) : Nat :=
  if (FloatKind.f32.format.order s 0 == some .eq) = true then cl (e 0 i)
  else if (FloatKind.f32.format.order s 1065353216 == some .eq && FloatKind.f32.format.order t 0 == some .eq) = true then cl (e 1 i)
  else if (FloatKind.f32.format.order t 1065353216 == some .eq && FloatKind.f32.format.order u 0 == some .eq) = true then cl (e 2 i)
  else if (FloatKind.f32.format.order u 1065353216 == some .eq) = true then cl (e 3 i)
  else fmC (cl (e 0 i)) (cl (e 1 i)) (cl (e 2 i)) (cl (e 3 i)) (cl s) (cl t) (cl u)
def tetC (s : Nat) (F a x : Nat → Nat) (i : Nat) : Nat := tetV (corE s F a (ordO x)) (x (ordO x 0)) (x (ordO x 1)) (x (ordO x 2)) i

section
variable {e : Nat → Nat → Nat} {s t u i : Nat}
theorem tetV0 (h : (FloatKind.f32.format.order s 0 == some .eq) = true) : tetV e s t u i = cl (e 0 i) := by unfold tetV; rw [if_pos h]
theorem tetV1 (h : (FloatKind.f32.format.order s 0 == some .eq) = false) (h1 : (FloatKind.f32.format.order s 1065353216 == some .eq && FloatKind.f32.format.order t 0 == some .eq) = true) : tetV e s t u i = cl (e 1 i) := by
  unfold tetV; rw [if_neg (by rw [h]; simp), if_pos h1]
theorem tetV2 (h : (FloatKind.f32.format.order s 0 == some .eq) = false) (h1 : (FloatKind.f32.format.order s 1065353216 == some .eq && FloatKind.f32.format.order t 0 == some .eq) = false)
    (h2 : (FloatKind.f32.format.order t 1065353216 == some .eq && FloatKind.f32.format.order u 0 == some .eq) = true) : tetV e s t u i = cl (e 2 i) := by
  unfold tetV; rw [if_neg (by rw [h]; simp), if_neg (by rw [h1]; simp), if_pos h2]
theorem tetV3 (h : (FloatKind.f32.format.order s 0 == some .eq) = false) (h1 : (FloatKind.f32.format.order s 1065353216 == some .eq && FloatKind.f32.format.order t 0 == some .eq) = false)
    (h2 : (FloatKind.f32.format.order t 1065353216 == some .eq && FloatKind.f32.format.order u 0 == some .eq) = false) (h3 : (FloatKind.f32.format.order u 1065353216 == some .eq) = true) : tetV e s t u i = cl (e 3 i) := by
  unfold tetV; rw [if_neg (by rw [h]; simp), if_neg (by rw [h1]; simp), if_neg (by rw [h2]; simp), if_pos h3]
theorem tetV4 (h : (FloatKind.f32.format.order s 0 == some .eq) = false) (h1 : (FloatKind.f32.format.order s 1065353216 == some .eq && FloatKind.f32.format.order t 0 == some .eq) = false)
    (h2 : (FloatKind.f32.format.order t 1065353216 == some .eq && FloatKind.f32.format.order u 0 == some .eq) = false) (h3 : (FloatKind.f32.format.order u 1065353216 == some .eq) = false) : tetV e s t u i = G s t u e i := by
  unfold tetV; rw [if_neg (by rw [h]; simp), if_neg (by rw [h1]; simp), if_neg (by rw [h2]; simp), if_neg (by rw [h3]; simp)]; rfl
theorem cl_G : cl (G s t u e i) = G s t u e i := cn_cop ..
end
theorem stp_lt {a o : Nat → Nat} {s : Nat} (h01 : o 0 ≠ o 1) (h02 : o 0 ≠ o 2) (h12 : o 1 ≠ o 2) (ha : ∀ k, k < 3 → a k + 2 ≤ s) (m : Nat) (hm : m ≤ 3) (k : Nat) (hk : k < 3) : stp a o m k < s := by
  have := ha k hk
  have h : m = 0 ∨ m = 1 ∨ m = 2 ∨ m = 3 := by omega
  rcases h with rfl | rfl | rfl | rfl <;> simp only [stp] <;> (repeat' split) <;> omega


theorem enters_tetra1 (args : Array Value) (w : World) : (callFunc 119 args).run Try.prog w = .ok (.enter 119 args) w := enters_of Try.func119 (by kernel_rfl) rfl args w
theorem enters_tetra2 (args : Array Value) (w : World) : (callFunc 121 args).run Try.prog w = .ok (.enter 121 args) w := enters_of Try.func121 (by kernel_rfl) rfl args w

/-- What lies where tetra has sorted. -/
structure T1 (s L H n c : Nat) (A : Option Addr) (a x : Nat → Nat) (w w1 : World) : Prop where
  b0 : Blk w1 w.heap.size 25 #[.int .i64 s, .float .f32 L, .float .f32 H, .slice A n c]
  b1 : Blk w1 (w.heap.size + 1) 140 (spotA a x)
  b2 : Blk w1 (w.heap.size + 1 + 1) 30 zarr
  b3 : Ax w1 (w.heap.size + 1 + 1 + 1) (ordO x)
  sz : w1.heap.size = w.heap.size + 4
  be : Below w.heap.size w w1

theorem t1_sort (s L H n c : Nat) (A : Option Addr) (a x : Nat → Nat) (w : World) (hx : ∀ k, k < 3 → isN .f32 (x k) = false) :
    Calls Try.prog 118 #[.slice (some ⟨w.heap.size + 1 + 1 + 1, 0, none⟩) 3 3, .func (.func 119) #[] #[.pointer (some ⟨w.heap.size + 1, 0, none⟩)]]
      ((((w.alloc (.cells #[.int .i64 s, .float .f32 L, .float .f32 H, .slice A n c] 25)).alloc (.cells (spotA a x) 140)).alloc (.cells zarr 30)).alloc (.cells #[.int .i64 0, .int .i64 1, .int .i64 2] 94))
      fun e w1 => e = .returned (.tuple #[]) ∧ T1 s L H n c A a x w w1 := by
  obtain ⟨W0, hW0⟩ : ∃ W0, (((w.alloc (.cells #[.int .i64 s, .float .f32 L, .float .f32 H, .slice A n c] 25)).alloc (.cells (spotA a x) 140)).alloc (.cells zarr 30)).alloc (.cells #[.int .i64 0, .int .i64 1, .int .i64 2] 94) = W0 := ⟨_, rfl⟩
  have q0 : Blk W0 w.heap.size 25 #[.int .i64 s, .float .f32 L, .float .f32 H, .slice A n c] := by rw [← hW0]; exact (((Blk.new_at _ _ _ rfl).alloc _).alloc _).alloc _
  have q1 : Blk W0 (w.heap.size + 1) 140 (spotA a x) := by rw [← hW0]; exact ((Blk.new_at _ _ _ (by simp)).alloc _).alloc _
  have q2 : Blk W0 (w.heap.size + 1 + 1) 30 zarr := by rw [← hW0]; exact (Blk.new_at _ _ _ (by simp)).alloc _
  have q3 : Ax W0 (w.heap.size + 1 + 1 + 1) (fun i => i) := by rw [← hW0]; exact Blk.new_at _ _ _ (by simp)
  have q4 : W0.heap.size = w.heap.size + 4 := by rw [← hW0]; simp
  have q5 : Below w.heap.size w W0 := by rw [← hW0]; exact ((((Below.refl _ _).alloc (Nat.le_refl _) _).alloc (by simp) _).alloc (by simp; omega) _).alloc (by simp; omega) _
  rw [hW0]
  clear hW0
  refine (stable_any 119 #[.pointer (some ⟨w.heap.size + 1, 0, none⟩)] enters_tetra1 (w.heap.size + 1 + 1 + 1) 3 (fun i => i) (fun i j => cmpC (x j) (x i)) W0 q3 (fun x hx => hx) ?_).mono ?_
  · intro w1 i j h hi hj
    exact cmp_any (w.heap.size + 1) a x i j w1 ((h.other _ (by omega)).trans q1) hi hj hx
  · rintro e w1 ⟨rfl, h1, h2⟩
    exact ⟨rfl, (h2.other _ (by omega)).trans q0, (h2.other _ (by omega)).trans q1, (h2.other _ (by omega)).trans q2, h1, h2.size.trans q4, q5.trans (h2.below (by omega))⟩

theorem run_index_ints (u0 u1 u2 : Int) (w : World) : (Instr.index 94 (.agg #[.int .i64 u0, .int .i64 u1, .int .i64 u2]) (.int .i64 0)).run Try.prog w = .ok (.int .i64 u0) w ∧
    (Instr.index 94 (.agg #[.int .i64 u0, .int .i64 u1, .int .i64 u2]) (.int .i64 1)).run Try.prog w = .ok (.int .i64 u1) w ∧
    (Instr.index 94 (.agg #[.int .i64 u0, .int .i64 u1, .int .i64 u2]) (.int .i64 2)).run Try.prog w = .ok (.int .i64 u2) w := by
  refine ⟨?_, ?_, ?_⟩ <;> simp [Instr.index, run_underlying Try.underlying94, asIntOf, go_sem]
theorem Ax.inc {w : World} {b : Nat} {d : Nat → Nat} (h : Ax w b d) (i : Nat) (hi : i < 3) : Ax (w.setCell ⟨b, i, none⟩ (.int .i64 ((d i : Int) + 1))) b (fun ax => if ax = i then d ax + 1 else d ax) := by
  have := Blk.set_ h i (.int .i64 ((d i : Int) + 1))
  unfold Ax
  have h1 : i = 0 ∨ i = 1 ∨ i = 2 := by omega
  rcases h1 with rfl | rfl | rfl <;> simpa using this

/-- What lies where the shares are laid apart. -/
structure T2 (s L H n c : Nat) (A : Option Addr) (a x : Nat → Nat) (w : World) (bs bt bu : Nat) (wx : World) : Prop where
  b0 : Blk wx w.heap.size 25 #[.int .i64 s, .float .f32 L, .float .f32 H, .slice A n c]
  b1 : Blk wx (w.heap.size + 1) 140 (spotA a x)
  b2 : Blk wx (w.heap.size + 1 + 1) 30 zarr
  b3 : Ax wx (w.heap.size + 1 + 1 + 1) (ordO x)
  bS : Blk wx bs 22 #[.float .f32 (x (ordO x 0))]
  bT : Blk wx bt 22 #[.float .f32 (x (ordO x 1))]
  bU : Blk wx bu 22 #[.float .f32 (x (ordO x 2))]
  be : Below w.heap.size w wx
/-- What lies at the head of the loop. -/
structure T4 (s L H n c : Nat) (A : Option Addr) (F a x : Nat → Nat) (w : World) (bs bt bu b9 b10 b11 k9 k : Nat) (wx : World) : Prop where
  b0 : Blk wx w.heap.size 25 #[.int .i64 s, .float .f32 L, .float .f32 H, .slice A n c]
  b2 : Blk wx (w.heap.size + 1 + 1) 30 zarr
  bS : Blk wx bs 22 #[.float .f32 (x (ordO x 0))]
  bT : Blk wx bt 22 #[.float .f32 (x (ordO x 1))]
  bU : Blk wx bu 22 #[.float .f32 (x (ordO x 2))]
  b9 : Ax wx b9 (stp a (ordO x) k9)
  b10 : Blk wx b10 30 (arrA (corE s F a (ordO x) 0))
  b11 : Blk wx b11 144 (nine fun m i => if m ≤ k then corE s F a (ordO x) m i else 0)
  be : Below w.heap.size w wx
theorem alloc3_blk (w : World) (t : TypeId) (c0 c1 c2 : Array Value) : Blk (((w.alloc (.cells c0 t)).alloc (.cells c1 t)).alloc (.cells c2 t)).drew w.heap.size t c0 ∧
    Blk (((w.alloc (.cells c0 t)).alloc (.cells c1 t)).alloc (.cells c2 t)).drew (w.heap.size + 1) t c1 ∧ Blk (((w.alloc (.cells c0 t)).alloc (.cells c1 t)).alloc (.cells c2 t)).drew (w.heap.size + 1 + 1) t c2 :=
  ⟨((Blk.new_at _ _ _ rfl).alloc _).alloc _, (Blk.new_at _ _ _ (by simp)).alloc _, Blk.new_at _ _ _ (by simp)⟩
theorem alloc3_below (w : World) (o0 o1 o2 : Obj) : Below w.heap.size w (((w.alloc o0).alloc o1).alloc o2).drew :=
  ((((Below.refl _ _).alloc (Nat.le_refl _) _).alloc (by simp) _).alloc (by simp; omega) _).drew
theorem T1.to2 {s L H n c : Nat} {A : Option Addr} {a x : Nat → Nat} {w w1 wx : World} {bs bt bu : Nat} (h : T1 s L H n c A a x w w1) (hb : Below w1.heap.size w1 wx)
    (hS : Blk wx bs 22 #[.float .f32 (x (ordO x 0))]) (hT : Blk wx bt 22 #[.float .f32 (x (ordO x 1))]) (hU : Blk wx bu 22 #[.float .f32 (x (ordO x 2))]) : T2 s L H n c A a x w bs bt bu wx :=
  ⟨h.b0.below hb h.b0.lt, h.b1.below hb h.b1.lt, h.b2.below hb h.b2.lt, Blk.below h.b3 hb (Blk.lt h.b3), hS, hT, hU, below_to h.be hb⟩
theorem T2.below {s L H n c : Nat} {A : Option Addr} {a x : Nat → Nat} {w : World} {bs bt bu : Nat} {wx w2 : World} (h : T2 s L H n c A a x w bs bt bu wx) (hb : Below wx.heap.size wx w2) : T2 s L H n c A a x w bs bt bu w2 :=
  ⟨h.b0.below hb h.b0.lt, h.b1.below hb h.b1.lt, h.b2.below hb h.b2.lt, Blk.below h.b3 hb (Blk.lt h.b3), h.bS.below hb h.bS.lt, h.bT.below hb h.bT.lt, h.bU.below hb h.bU.lt, below_to h.be hb⟩

structure Sep (w : World) (bs bt bu b9 b10 b11 : Nat) : Prop where
  n0 : b9 ≠ w.heap.size
  n2 : b9 ≠ w.heap.size + 1 + 1
  ns : b9 ≠ bs
  nt : b9 ≠ bt
  nu : b9 ≠ bu
  n10 : b9 ≠ b10
  n11 : b9 ≠ b11
  m0 : b11 ≠ w.heap.size
  m2 : b11 ≠ w.heap.size + 1 + 1
  ms : b11 ≠ bs
  mt : b11 ≠ bt
  mu : b11 ≠ bu
  m10 : b11 ≠ b10
  l9 : w.heap.size ≤ b9
  l11 : w.heap.size ≤ b11
section
variable {s L H n c : Nat} {A : Option Addr} {F a x : Nat → Nat} {w : World} {bs bt bu b9 b10 b11 : Nat} {wx w2 : World}
theorem T4.below {k9 k : Nat} (h : T4 s L H n c A F a x w bs bt bu b9 b10 b11 k9 k wx) (hb : Below wx.heap.size wx w2) : T4 s L H n c A F a x w bs bt bu b9 b10 b11 k9 k w2 :=
  ⟨h.b0.below hb h.b0.lt, h.b2.below hb h.b2.lt, h.bS.below hb h.bS.lt, h.bT.below hb h.bT.lt, h.bU.below hb h.bU.lt, Blk.below h.b9 hb (Blk.lt h.b9), h.b10.below hb h.b10.lt, h.b11.below hb h.b11.lt, below_to h.be hb⟩
theorem T4.inc {k : Nat} (h : T4 s L H n c A F a x w bs bt bu b9 b10 b11 k k wx) (q : Sep w bs bt bu b9 b10 b11) (ho : ordO x k < 3) :
    T4 s L H n c A F a x w bs bt bu b9 b10 b11 (k + 1) k (wx.setCell ⟨b9, ordO x k, none⟩ (.int .i64 ((stp a (ordO x) k (ordO x k) : Int) + 1))) :=
  ⟨h.b0.far (by exact fun e => q.n0 e.symm) _, h.b2.far (by exact fun e => q.n2 e.symm) _, h.bS.far (by exact fun e => q.ns e.symm) _, h.bT.far (by exact fun e => q.nt e.symm) _, h.bU.far (by exact fun e => q.nu e.symm) _, h.b9.inc _ ho,
    h.b10.far (by exact fun e => q.n10 e.symm) _, h.b11.far (by exact fun e => q.n11 e.symm) _, h.be.setCell (by exact q.l9) _⟩
theorem far3 {w : World} {g b o : Nat} {t : TypeId} {cs : Array Value} (h : Blk w g t cs) (hg : g ≠ b) (u0 u1 u2 : Value) : Blk (((w.setCell ⟨b, o, none⟩ u0).setCell ⟨b, o + 1, none⟩ u1).setCell ⟨b, o + 2, none⟩ u2) g t cs :=
  ((h.far hg u0).far hg u1).far hg u2
theorem T4.row {k : Nat} (hk : k < 3) (h : T4 s L H n c A F a x w bs bt bu b9 b10 b11 (k + 1) k wx) (q : Sep w bs bt bu b9 b10 b11) :
    T4 s L H n c A F a x w bs bt bu b9 b10 b11 (k + 1) (k + 1) (((wx.setCell ⟨b11, 3 * k, none⟩ (.float .f32 (corE s F a (ordO x) (k + 1) 0))).setCell ⟨b11, 3 * k + 1, none⟩ (.float .f32 (corE s F a (ordO x) (k + 1) 1))).setCell ⟨b11, 3 * k + 2, none⟩ (.float .f32 (corE s F a (ordO x) (k + 1) 2))) := by
  refine ⟨far3 h.b0 (fun e => q.m0 e.symm) _ _ _, far3 h.b2 (fun e => q.m2 e.symm) _ _ _, far3 h.bS (fun e => q.ms e.symm) _ _ _, far3 h.bT (fun e => q.mt e.symm) _ _ _, far3 h.bU (fun e => q.mu e.symm) _ _ _, far3 h.b9 q.n11 _ _ _,
    far3 h.b10 (fun e => q.m10 e.symm) _ _ _, ?_, ((h.be.setCell (p := ⟨b11, 3 * k, none⟩) q.l11 _).setCell (p := ⟨b11, 3 * k + 1, none⟩) q.l11 _).setCell (p := ⟨b11, 3 * k + 2, none⟩) q.l11 _⟩
  have := ((h.b11.set_ (3 * k) (.float .f32 (corE s F a (ordO x) (k + 1) 0))).set_ (3 * k + 1) (.float .f32 (corE s F a (ordO x) (k + 1) 1))).set_ (3 * k + 2) (.float .f32 (corE s F a (ordO x) (k + 1) 2))
  have hk3 : k = 0 ∨ k = 1 ∨ k = 2 := by omega
  rcases hk3 with rfl | rfl | rfl <;> simpa [nine] using this
end

set_option maxRecDepth 100000 in
set_option maxHeartbeats 4000000 in
theorem tetra_any (s L H n c : Nat) (A : Option Addr) (F a x : Nat → Nat) (w : World) (hC : CubOk s L H n) (ha : ∀ k, k < 3 → a k + 2 ≤ s) (hx : ∀ k, k < 3 → isN .f32 (x k) = false) (hnc : n ≤ c) (hF : Src w A n F) :
    Calls Try.prog 69 #[cub s L H A n c, .agg (spotA a x)] w (Gave3 w (tetC s F a x)) := by
  have HC := hid hC
  have HA := hid ha
  have HX := hid hx
  have HF : RowKit.Hid (∀ w1, Below w.heap.size w w1 → Src w1 A n F) := hid fun w1 h => hF.below h
  clear hC ha hx hF
  go_enter Try.func69, Try.ntmps69
  go_wp2_with fail
  refine (t1_sort s L H n c A a x w HX.out).mono ?_
  rintro e w1 ⟨rfl, hT⟩
  have HT := hid hT
  have p0 := hT.b3.cell 0 (by omega)
  have p1 := hT.b3.cell 1 (by omega)
  have p2 := hT.b3.cell 2 (by omega)
  obtain ⟨HO, h01, h02, h12⟩ := srt_perm (gOf fun i j => cmpC (x j) (x i))
  have o0 := HO 0 (by omega)
  have o1 := HO 1 (by omega)
  have o2 := HO 2 (by omega)
  have HP := hid (And.intro h01 (And.intro h02 h12))
  change ordO x 0 < 3 at o0
  change ordO x 1 < 3 at o1
  change ordO x 2 < 3 at o2
  have v0 := spot_share hT.b1 _ o0
  have v1 := spot_share hT.b1 _ o1
  have v2 := spot_share hT.b1 _ o2
  have i0 : (ordO x 0 : Int) < 3 := by omega
  have i1 : (ordO x 1 : Int) < 3 := by omega
  have i2 : (ordO x 2 : Int) < 3 := by omega
  have hz : w.heap.size + 1 + 1 + 1 < w1.heap.size := by have := hT.sz; omega
  obtain ⟨x00, x01, x02⟩ := cell_allocs (by omega) p0
  obtain ⟨x10, x11, x12⟩ := cell_allocs (by omega) p1
  obtain ⟨x20, x21, x22⟩ := cell_allocs (by omega) p2
  obtain ⟨y00, y01, y02⟩ := cell_allocs (by omega) v0
  obtain ⟨y10, y11, y12⟩ := cell_allocs (by omega) v1
  obtain ⟨y20, y21, y22⟩ := cell_allocs (by omega) v2
  clear HO h01 h02 h12 hT
  go_upto_region 3 with fail
  go_cut [6, 7, 8] (fun v6 v7 v8 wx => ∃ bs bt bu : Nat, v6 = .pointer (some ⟨bs, 0, none⟩) ∧ v7 = .pointer (some ⟨bt, 0, none⟩) ∧ v8 = .pointer (some ⟨bu, 0, none⟩) ∧ T2 s L H n c A a x w bs bt bu wx)
  case first =>
    have HZ := hid hz
    clear HX HF HA HC HP o0 o1 o2
    go_region_held3 (fun w' => w'.cell? ⟨w.heap.size + 1 + 1 + 1, 0, none⟩ = some (.int .i64 (ordO x 0 : Nat)) ∧ w'.cell? ⟨w.heap.size + 1 + 1 + 1, 1, none⟩ = some (.int .i64 (ordO x 1 : Nat)) ∧ w'.cell? ⟨w.heap.size + 1 + 1 + 1, 2, none⟩ = some (.int .i64 (ordO x 2 : Nat)) ∧ w'.cell? ⟨w.heap.size + 1, 3 + ordO x 0, none⟩ = some (.float .f32 (x (ordO x 0))) ∧ w'.cell? ⟨w.heap.size + 1, 3 + ordO x 1, none⟩ = some (.float .f32 (x (ordO x 1))) ∧ w'.cell? ⟨w.heap.size + 1, 3 + ordO x 2, none⟩ = some (.float .f32 (x (ordO x 2))))
      (first | exact ⟨p0, p1, p2, v0, v1, v2⟩ | exact ⟨x00 _, x10 _, x20 _, y00 _, y10 _, y20 _⟩ | exact ⟨x01 _ _, x11 _ _, x21 _ _, y01 _ _, y11 _ _, y21 _ _⟩ | exact ⟨x02 _ _ _, x12 _ _ _, x22 _ _ _, y02 _ _ _, y12 _ _ _, y22 _ _ _⟩)
      (first | fail)
    all_goals
      clear x00 x01 x02 x10 x11 x12 x20 x21 x22 y00 y01 y02 y10 y11 y12 y20 y21 y22 p0 p1 p2 v0 v1 v2 hz
      go_wp2_with fail
      go_meet
      exact ⟨_, _, _, rfl, rfl, rfl, HT.out.to2 (alloc3_below w1 _ _ _)
        (by first | exact (alloc3_blk w1 22 _ _ _).1 | exact (alloc3_blk w1 22 _ _ _).2.1 | exact (alloc3_blk w1 22 _ _ _).2.2)
        (by first | exact (alloc3_blk w1 22 _ _ _).1 | exact (alloc3_blk w1 22 _ _ _).2.1 | exact (alloc3_blk w1 22 _ _ _).2.2)
        (by first | exact (alloc3_blk w1 22 _ _ _).1 | exact (alloc3_blk w1 22 _ _ _).2.1 | exact (alloc3_blk w1 22 _ _ _).2.2)⟩
  case rest =>
    clear x00 x01 x02 x10 x11 x12 x20 x21 x22 y00 y01 y02 y10 y11 y12 y20 y21 y22 p0 p1 p2 v0 v1 v2 hz HT
    obtain ⟨bs, bt, bu, rfl, rfl, rfl, hT⟩ := hcut
    have HT := hid hT
    obtain ⟨c0, -, -⟩ := cell_allocs hT.b0.lt (by simpa using hT.b0.cell 0)
    obtain ⟨c1, -, -⟩ := cell_allocs hT.b0.lt (by simpa using hT.b0.cell 1)
    obtain ⟨c2, -, -⟩ := cell_allocs hT.b0.lt (by simpa using hT.b0.cell 2)
    obtain ⟨c3, -, -⟩ := cell_allocs hT.b0.lt (by simpa using hT.b0.cell 3)
    have d0 := hT.b1.cell 0
    have d1 := hT.b1.cell 1
    have d2 := hT.b1.cell 2
    simp at d0 d1 d2
    have a0 := HA.out 0 (by omega)
    have a1 := HA.out 1 (by omega)
    have a2 := HA.out 2 (by omega)
    clear hT
    have q1 := HC.out.s2
    have hbox := HT.out.be.alloc (by have := HT.out.be.size; omega) (.cells #[.int .i64 (a 0 : Nat), .int .i64 (a 1 : Nat), .int .i64 (a 2 : Nat)] 94)
    have HBX := hid hbox
    clear hbox
    go_wp2_with fail
    refine (entry_any s L H n c (a 0) (a 1) (a 2) A F _ HC.out (by omega) (by omega) (by omega) hnc (HF.out _ HBX.out)).mono ?_
    rintro e w2 ⟨rfl, hb2⟩
    have hT2 := HT.out.below (below_box hb2)
    have hx9 : Ax w2 wc.heap.size (stp a (ordO x) 0) := boxed hb2
    have HT2 := hid hT2
    have HX9 := hid hx9
    have HZ := hid hb2.size
    have hz3 := Blk.lt hT2.b3
    obtain ⟨-, p0, -⟩ := cell_allocs hz3 (hT2.b3.cell 0 (by omega))
    obtain ⟨-, p1, -⟩ := cell_allocs hz3 (hT2.b3.cell 1 (by omega))
    obtain ⟨-, p2, -⟩ := cell_allocs hz3 (hT2.b3.cell 2 (by omega))
    clear hT2 hx9 hb2 hz3 c0 c1 c2 c3 d0 d1 d2
    go_wp2_with fail
    go_loopw [39] (fun i wr => ∃ k : Nat, k ≤ 3 ∧ i = .int .i64 k ∧ T4 s L H n c A F a x w bs bt bu wc.heap.size w2.heap.size (w2.heap.size + 1) k k wr) (fun i _ => 3 - (intOf i).toNat)
    case atStart =>
      have h := HT2.out
      have hlt := Blk.lt HX9.out
      refine ⟨0, by omega, rfl, ⟨(h.b0.alloc _).alloc _, (h.b2.alloc _).alloc _, (h.bS.alloc _).alloc _, (h.bT.alloc _).alloc _, (h.bU.alloc _).alloc _, Blk.alloc (Blk.alloc HX9.out _) _, ?_, ?_, (h.be.alloc h.be.size _).alloc (by have := h.be.size; simp; omega) _⟩⟩
      · exact (Blk.new_at _ _ _ rfl).alloc _
      · exact Blk.new_at _ _ _ (by simp)
    case round =>
      obtain ⟨k, hk, rfl, hT4⟩ := hrel
      have hk4 : k = 0 ∨ k = 1 ∨ k = 2 ∨ k = 3 := by omega
      have HL : RowKit.Hid (∀ m, m ≤ 3 → ∀ k, k < 3 → stp a (ordO x) m k < s) := hid (fun m hm k hk => stp_lt HP.out.1 HP.out.2.1 HP.out.2.2 HA.out m hm k hk)
      clear hk HZ p0 p1 p2
      have HSEP : RowKit.Hid (Sep w bs bt bu wc.heap.size w2.heap.size (w2.heap.size + 1)) := hid (by
        have h := HT.out
        have l0 := h.b0.lt
        have l2 := h.b2.lt
        have ls := h.bS.lt
        have lt := h.bT.lt
        have lu := h.bU.lt
        have l9 := Blk.lt HX9.out
        have le := h.be.size
        exact ⟨by omega, by omega, by omega, by omega, by omega, by omega, by omega, by omega, by omega, by omega, by omega, by omega, by omega, by omega, by omega⟩)
      have ri0 := fun w => (run_index_ints (ordO x 0) (ordO x 1) (ordO x 2) w).1
      have ri1 := fun w => (run_index_ints (ordO x 0) (ordO x 1) (ordO x 2) w).2.1
      have ri2 := fun w => (run_index_ints (ordO x 0) (ordO x 1) (ordO x 2) w).2.2
      rcases hk4 with rfl | rfl | rfl | rfl
      case inl =>
        have g1 := hT4.b9.cell _ o0
        have g2 := hT4.b9.open_ (ordO x 0)
        have g3 := HL.out 0 (by omega) _ o0
        have g4 : ((stp a (ordO x) 0 (ordO x 0) : Nat) : Int) ≤ 20 := by omega
        have H4 := hid hT4
        clear hT4
        go_upto_region 11 with fail
        have hT5 := H4.out.inc HSEP.out o0
        clear H4 g1 g2 g3 g4
        generalize wr.setCell ⟨wc.heap.size, ordO x 0, none⟩ (.int .i64 ((stp a (ordO x) 0 (ordO x 0) : Int) + 1)) = w3 at hT5 ⊢
        have H5 := hid hT5
        have f0 := hT5.b9.cell 0 (by omega)
        have f1 := hT5.b9.cell 1 (by omega)
        have f2 := hT5.b9.cell 2 (by omega)
        have c0 := hT5.b0.cell 0
        have c1 := hT5.b0.cell 1
        have c2 := hT5.b0.cell 2
        have c3 := hT5.b0.cell 3
        simp at c0 c1 c2 c3
        clear hT5
        go_wp2_with fail
        refine (entry_any s L H n c _ _ _ A F _ HC.out (HL.out 1 (by omega) 0 (by omega)) (HL.out 1 (by omega) 1 (by omega)) (HL.out 1 (by omega) 2 (by omega)) hnc (HF.out _ H5.out.be)).mono ?_
        rintro e w4 ⟨rfl, hb4⟩
        have hT6 := H5.out.below hb4
        have H6 := hid hT6
        have r0 := hT6.b11.cell 0
        have r1 := hT6.b11.cell 1
        have r2 := hT6.b11.cell 2
        have rf := fun i => hT6.b11.frozen i
        simp at r0 r1 r2
        clear hT6 hb4 H5 f0 f1 f2 c0 c1 c2 c3
        go_wp2
        go_roundw
        case rel => exact ⟨1, by omega, by simp, H6.out.row (by omega) HSEP.out⟩
        case measure => simp [intOf]
      case inr.inl =>
        have g1 := hT4.b9.cell _ o1
        have g2 := hT4.b9.open_ (ordO x 1)
        have g3 := HL.out 1 (by omega) _ o1
        have g4 : ((stp a (ordO x) 1 (ordO x 1) : Nat) : Int) ≤ 20 := by omega
        have H4 := hid hT4
        clear hT4
        go_upto_region 11 with fail
        have hT5 := H4.out.inc HSEP.out o1
        clear H4 g1 g2 g3 g4
        generalize wr.setCell ⟨wc.heap.size, ordO x 1, none⟩ (.int .i64 ((stp a (ordO x) 1 (ordO x 1) : Int) + 1)) = w3 at hT5 ⊢
        have H5 := hid hT5
        have f0 := hT5.b9.cell 0 (by omega)
        have f1 := hT5.b9.cell 1 (by omega)
        have f2 := hT5.b9.cell 2 (by omega)
        have c0 := hT5.b0.cell 0
        have c1 := hT5.b0.cell 1
        have c2 := hT5.b0.cell 2
        have c3 := hT5.b0.cell 3
        simp at c0 c1 c2 c3
        clear hT5
        go_wp2_with fail
        refine (entry_any s L H n c _ _ _ A F _ HC.out (HL.out 2 (by omega) 0 (by omega)) (HL.out 2 (by omega) 1 (by omega)) (HL.out 2 (by omega) 2 (by omega)) hnc (HF.out _ H5.out.be)).mono ?_
        rintro e w4 ⟨rfl, hb4⟩
        have hT6 := H5.out.below hb4
        have H6 := hid hT6
        have r0 := hT6.b11.cell 3
        have r1 := hT6.b11.cell 4
        have r2 := hT6.b11.cell 5
        have rf := fun i => hT6.b11.frozen i
        simp at r0 r1 r2
        clear hT6 hb4 H5 f0 f1 f2 c0 c1 c2 c3
        go_wp2
        go_roundw
        case rel => exact ⟨2, by omega, by simp, H6.out.row (by omega) HSEP.out⟩
        case measure => simp [intOf]
      case inr.inr.inl =>
        have g1 := hT4.b9.cell _ o2
        have g2 := hT4.b9.open_ (ordO x 2)
        have g3 := HL.out 2 (by omega) _ o2
        have g4 : ((stp a (ordO x) 2 (ordO x 2) : Nat) : Int) ≤ 20 := by omega
        have H4 := hid hT4
        clear hT4
        go_upto_region 11 with fail
        have hT5 := H4.out.inc HSEP.out o2
        clear H4 g1 g2 g3 g4
        generalize wr.setCell ⟨wc.heap.size, ordO x 2, none⟩ (.int .i64 ((stp a (ordO x) 2 (ordO x 2) : Int) + 1)) = w3 at hT5 ⊢
        have H5 := hid hT5
        have f0 := hT5.b9.cell 0 (by omega)
        have f1 := hT5.b9.cell 1 (by omega)
        have f2 := hT5.b9.cell 2 (by omega)
        have c0 := hT5.b0.cell 0
        have c1 := hT5.b0.cell 1
        have c2 := hT5.b0.cell 2
        have c3 := hT5.b0.cell 3
        simp at c0 c1 c2 c3
        clear hT5
        go_wp2_with fail
        refine (entry_any s L H n c _ _ _ A F _ HC.out (HL.out 3 (by omega) 0 (by omega)) (HL.out 3 (by omega) 1 (by omega)) (HL.out 3 (by omega) 2 (by omega)) hnc (HF.out _ H5.out.be)).mono ?_
        rintro e w4 ⟨rfl, hb4⟩
        have hT6 := H5.out.below hb4
        have H6 := hid hT6
        have r0 := hT6.b11.cell 6
        have r1 := hT6.b11.cell 7
        have r2 := hT6.b11.cell 8
        have rf := fun i => hT6.b11.frozen i
        simp at r0 r1 r2
        clear hT6 hb4 H5 f0 f1 f2 c0 c1 c2 c3
        go_wp2
        go_roundw
        case rel => exact ⟨3, by omega, by simp, H6.out.row (by omega) HSEP.out⟩
        case measure => simp [intOf]
      case inr.inr.inr =>
        have b11 : Blk wr (w2.heap.size + 1) 144 (nine (corE s F a (ordO x))) := hT4.b11
        have sv := hT4.bS.cell 0
        have tv := hT4.bT.cell 0
        have uv := hT4.bU.cell 0
        have z0 := hT4.b2.cell 0
        have z1 := hT4.b2.cell 1
        have z2 := hT4.b2.cell 2
        have zf := fun i => hT4.b2.frozen i
        have k0 := hT4.b10.cell 0
        have k1 := hT4.b10.cell 1
        have k2 := hT4.b10.cell 2
        have m0 := b11.cell 0
        have m1 := b11.cell 1
        have m2 := b11.cell 2
        have m3 := b11.cell 3
        have m4 := b11.cell 4
        have m5 := b11.cell 5
        have m6 := b11.cell 6
        have m7 := b11.cell 7
        have m8 := b11.cell 8
        simp at sv tv uv z0 z1 z2 k0 k1 k2 m0 m1 m2 m3 m4 m5 m6 m7 m8
        have HB11 := hid b11
        have H4 := hid hT4
        have HV : RowKit.Hid (∀ i, tetC s F a x i = tetV (corE s F a (ordO x)) (x (ordO x 0)) (x (ordO x 1)) (x (ordO x 2)) i) := hid fun _ => rfl
        clear hT4 b11 ri0 ri1 ri2 a0 a1 a2 HSEP HL HX9 HT2 HBX HT
        cases s0 : FloatKind.f32.format.order (x (ordO x 0)) 0 == some .eq
        case false =>
          cases s1 : FloatKind.f32.format.order (x (ordO x 0)) 1065353216 == some .eq
          case false =>
            cases t1 : FloatKind.f32.format.order (x (ordO x 1)) 1065353216 == some .eq
            case false =>
              cases u1 : FloatKind.f32.format.order (x (ordO x 2)) 1065353216 == some .eq
              case false =>
                go_wp2_with fail
                refine (each_any 121 #[.pointer (some ⟨w2.heap.size + 1, 0, none⟩), .pointer (some ⟨bs, 0, none⟩), .pointer (some ⟨bt, 0, none⟩), .pointer (some ⟨bu, 0, none⟩)] enters_tetra2 (corE s F a (ordO x) 0) (G (x (ordO x 0)) (x (ordO x 1)) (x (ordO x 2)) (corE s F a (ordO x))) wr (fun k w1 hk hb => tetra2_any (w2.heap.size + 1) bs bt bu (corE s F a (ordO x) 0 k) (x (ordO x 0)) (x (ordO x 1)) (x (ordO x 2)) k (corE s F a (ordO x)) w1 hk (HB11.out.below hb HB11.out.lt) (H4.out.bS.below hb H4.out.bS.lt) (H4.out.bT.below hb H4.out.bT.lt) (H4.out.bU.below hb H4.out.bU.lt))).mono ?_
                rintro e w5 ⟨rfl, hb5⟩
                have ya := H4.out.b2.below hb5 H4.out.b2.lt
                have HE5 := hid (below_to H4.out.be hb5)
                have HY := hid ya
                have y0 := ya.cell 0
                have y1 := ya.cell 1
                have y2 := ya.cell 2
                have yf := fun i => ya.frozen i
                simp at y0 y1 y2
                clear hb5 ya
                go_wp2
                have hblk := HY.out.set3 (.float .f32 (G (x (ordO x 0)) (x (ordO x 1)) (x (ordO x 2)) (corE s F a (ordO x)) 0)) (.float .f32 (G (x (ordO x 0)) (x (ordO x 1)) (x (ordO x 2)) (corE s F a (ordO x)) 1)) (.float .f32 (G (x (ordO x 0)) (x (ordO x 1)) (x (ordO x 2)) (corE s F a (ordO x)) 2))
                have hb2 := ((HE5.out.setCell (p := ⟨w.heap.size + 1 + 1, 0, none⟩) (by simp; omega) (.float .f32 (G (x (ordO x 0)) (x (ordO x 1)) (x (ordO x 2)) (corE s F a (ordO x)) 0))).setCell (p := ⟨w.heap.size + 1 + 1, 1, none⟩) (by simp; omega) (.float .f32 (G (x (ordO x 0)) (x (ordO x 1)) (x (ordO x 2)) (corE s F a (ordO x)) 1))).setCell (p := ⟨w.heap.size + 1 + 1, 2, none⟩) (by simp; omega) (.float .f32 (G (x (ordO x 0)) (x (ordO x 1)) (x (ordO x 2)) (corE s F a (ordO x)) 2))
                exact bodyPost_ret (v := arr (G (x (ordO x 0)) (x (ordO x 1)) (x (ordO x 2)) (corE s F a (ordO x)))) (results_cell_row rfl _ _ _ _ _ _ _ rfl hblk Try.underlying30 rfl (by kernel_rfl)) rfl ⟨_, rfl, fun i _ => (cl_G ..).trans ((HV.out i).trans (tetV4 s0 (by rw [s1]; rfl) (by rw [t1]; rfl) u1)).symm, hb2⟩
              case true =>
                go_wp2
                have hblk := H4.out.b2.set3 (.float .f32 (corE s F a (ordO x) 3 0)) (.float .f32 (corE s F a (ordO x) 3 1)) (.float .f32 (corE s F a (ordO x) 3 2))
                have hb2 := ((H4.out.be.setCell (p := ⟨w.heap.size + 1 + 1, 0, none⟩) (by simp; omega) (.float .f32 (corE s F a (ordO x) 3 0))).setCell (p := ⟨w.heap.size + 1 + 1, 1, none⟩) (by simp; omega) (.float .f32 (corE s F a (ordO x) 3 1))).setCell (p := ⟨w.heap.size + 1 + 1, 2, none⟩) (by simp; omega) (.float .f32 (corE s F a (ordO x) 3 2))
                exact bodyPost_ret (v := arr (corE s F a (ordO x) 3)) (results_cell_row rfl _ _ _ _ _ _ _ rfl hblk Try.underlying30 rfl (by kernel_rfl)) rfl ⟨_, rfl, fun i _ => ((HV.out i).trans (tetV3 s0 (by rw [s1]; rfl) (by rw [t1]; rfl) u1)).symm, hb2⟩
            case true =>
              cases u0 : FloatKind.f32.format.order (x (ordO x 2)) 0 == some .eq
              case false =>
                cases u1 : FloatKind.f32.format.order (x (ordO x 2)) 1065353216 == some .eq
                case false =>
                  go_wp2_with fail
                  refine (each_any 121 #[.pointer (some ⟨w2.heap.size + 1, 0, none⟩), .pointer (some ⟨bs, 0, none⟩), .pointer (some ⟨bt, 0, none⟩), .pointer (some ⟨bu, 0, none⟩)] enters_tetra2 (corE s F a (ordO x) 0) (G (x (ordO x 0)) (x (ordO x 1)) (x (ordO x 2)) (corE s F a (ordO x))) wr (fun k w1 hk hb => tetra2_any (w2.heap.size + 1) bs bt bu (corE s F a (ordO x) 0 k) (x (ordO x 0)) (x (ordO x 1)) (x (ordO x 2)) k (corE s F a (ordO x)) w1 hk (HB11.out.below hb HB11.out.lt) (H4.out.bS.below hb H4.out.bS.lt) (H4.out.bT.below hb H4.out.bT.lt) (H4.out.bU.below hb H4.out.bU.lt))).mono ?_
                  rintro e w5 ⟨rfl, hb5⟩
                  have ya := H4.out.b2.below hb5 H4.out.b2.lt
                  have HE5 := hid (below_to H4.out.be hb5)
                  have HY := hid ya
                  have y0 := ya.cell 0
                  have y1 := ya.cell 1
                  have y2 := ya.cell 2
                  have yf := fun i => ya.frozen i
                  simp at y0 y1 y2
                  clear hb5 ya
                  go_wp2
                  have hblk := HY.out.set3 (.float .f32 (G (x (ordO x 0)) (x (ordO x 1)) (x (ordO x 2)) (corE s F a (ordO x)) 0)) (.float .f32 (G (x (ordO x 0)) (x (ordO x 1)) (x (ordO x 2)) (corE s F a (ordO x)) 1)) (.float .f32 (G (x (ordO x 0)) (x (ordO x 1)) (x (ordO x 2)) (corE s F a (ordO x)) 2))
                  have hb2 := ((HE5.out.setCell (p := ⟨w.heap.size + 1 + 1, 0, none⟩) (by simp; omega) (.float .f32 (G (x (ordO x 0)) (x (ordO x 1)) (x (ordO x 2)) (corE s F a (ordO x)) 0))).setCell (p := ⟨w.heap.size + 1 + 1, 1, none⟩) (by simp; omega) (.float .f32 (G (x (ordO x 0)) (x (ordO x 1)) (x (ordO x 2)) (corE s F a (ordO x)) 1))).setCell (p := ⟨w.heap.size + 1 + 1, 2, none⟩) (by simp; omega) (.float .f32 (G (x (ordO x 0)) (x (ordO x 1)) (x (ordO x 2)) (corE s F a (ordO x)) 2))
                  exact bodyPost_ret (v := arr (G (x (ordO x 0)) (x (ordO x 1)) (x (ordO x 2)) (corE s F a (ordO x)))) (results_cell_row rfl _ _ _ _ _ _ _ rfl hblk Try.underlying30 rfl (by kernel_rfl)) rfl ⟨_, rfl, fun i _ => (cl_G ..).trans ((HV.out i).trans (tetV4 s0 (by rw [s1]; rfl) (by rw [t1, u0]; rfl) u1)).symm, hb2⟩
                case true =>
                  go_wp2
                  have hblk := H4.out.b2.set3 (.float .f32 (corE s F a (ordO x) 3 0)) (.float .f32 (corE s F a (ordO x) 3 1)) (.float .f32 (corE s F a (ordO x) 3 2))
                  have hb2 := ((H4.out.be.setCell (p := ⟨w.heap.size + 1 + 1, 0, none⟩) (by simp; omega) (.float .f32 (corE s F a (ordO x) 3 0))).setCell (p := ⟨w.heap.size + 1 + 1, 1, none⟩) (by simp; omega) (.float .f32 (corE s F a (ordO x) 3 1))).setCell (p := ⟨w.heap.size + 1 + 1, 2, none⟩) (by simp; omega) (.float .f32 (corE s F a (ordO x) 3 2))
                  exact bodyPost_ret (v := arr (corE s F a (ordO x) 3)) (results_cell_row rfl _ _ _ _ _ _ _ rfl hblk Try.underlying30 rfl (by kernel_rfl)) rfl ⟨_, rfl, fun i _ => ((HV.out i).trans (tetV3 s0 (by rw [s1]; rfl) (by rw [t1, u0]; rfl) u1)).symm, hb2⟩
              case true =>
                go_wp2
                have hblk := H4.out.b2.set3 (.float .f32 (corE s F a (ordO x) 2 0)) (.float .f32 (corE s F a (ordO x) 2 1)) (.float .f32 (corE s F a (ordO x) 2 2))
                have hb2 := ((H4.out.be.setCell (p := ⟨w.heap.size + 1 + 1, 0, none⟩) (by simp; omega) (.float .f32 (corE s F a (ordO x) 2 0))).setCell (p := ⟨w.heap.size + 1 + 1, 1, none⟩) (by simp; omega) (.float .f32 (corE s F a (ordO x) 2 1))).setCell (p := ⟨w.heap.size + 1 + 1, 2, none⟩) (by simp; omega) (.float .f32 (corE s F a (ordO x) 2 2))
                exact bodyPost_ret (v := arr (corE s F a (ordO x) 2)) (results_cell_row rfl _ _ _ _ _ _ _ rfl hblk Try.underlying30 rfl (by kernel_rfl)) rfl ⟨_, rfl, fun i _ => ((HV.out i).trans (tetV2 s0 (by rw [s1]; rfl) (by rw [t1, u0]; rfl))).symm, hb2⟩
          case true =>
            cases t0 : FloatKind.f32.format.order (x (ordO x 1)) 0 == some .eq
            case false =>
              cases t1 : FloatKind.f32.format.order (x (ordO x 1)) 1065353216 == some .eq
              case false =>
                cases u1 : FloatKind.f32.format.order (x (ordO x 2)) 1065353216 == some .eq
                case false =>
                  go_wp2_with fail
                  refine (each_any 121 #[.pointer (some ⟨w2.heap.size + 1, 0, none⟩), .pointer (some ⟨bs, 0, none⟩), .pointer (some ⟨bt, 0, none⟩), .pointer (some ⟨bu, 0, none⟩)] enters_tetra2 (corE s F a (ordO x) 0) (G (x (ordO x 0)) (x (ordO x 1)) (x (ordO x 2)) (corE s F a (ordO x))) wr (fun k w1 hk hb => tetra2_any (w2.heap.size + 1) bs bt bu (corE s F a (ordO x) 0 k) (x (ordO x 0)) (x (ordO x 1)) (x (ordO x 2)) k (corE s F a (ordO x)) w1 hk (HB11.out.below hb HB11.out.lt) (H4.out.bS.below hb H4.out.bS.lt) (H4.out.bT.below hb H4.out.bT.lt) (H4.out.bU.below hb H4.out.bU.lt))).mono ?_
                  rintro e w5 ⟨rfl, hb5⟩
                  have ya := H4.out.b2.below hb5 H4.out.b2.lt
                  have HE5 := hid (below_to H4.out.be hb5)
                  have HY := hid ya
                  have y0 := ya.cell 0
                  have y1 := ya.cell 1
                  have y2 := ya.cell 2
                  have yf := fun i => ya.frozen i
                  simp at y0 y1 y2
                  clear hb5 ya
                  go_wp2
                  have hblk := HY.out.set3 (.float .f32 (G (x (ordO x 0)) (x (ordO x 1)) (x (ordO x 2)) (corE s F a (ordO x)) 0)) (.float .f32 (G (x (ordO x 0)) (x (ordO x 1)) (x (ordO x 2)) (corE s F a (ordO x)) 1)) (.float .f32 (G (x (ordO x 0)) (x (ordO x 1)) (x (ordO x 2)) (corE s F a (ordO x)) 2))
                  have hb2 := ((HE5.out.setCell (p := ⟨w.heap.size + 1 + 1, 0, none⟩) (by simp; omega) (.float .f32 (G (x (ordO x 0)) (x (ordO x 1)) (x (ordO x 2)) (corE s F a (ordO x)) 0))).setCell (p := ⟨w.heap.size + 1 + 1, 1, none⟩) (by simp; omega) (.float .f32 (G (x (ordO x 0)) (x (ordO x 1)) (x (ordO x 2)) (corE s F a (ordO x)) 1))).setCell (p := ⟨w.heap.size + 1 + 1, 2, none⟩) (by simp; omega) (.float .f32 (G (x (ordO x 0)) (x (ordO x 1)) (x (ordO x 2)) (corE s F a (ordO x)) 2))
                  exact bodyPost_ret (v := arr (G (x (ordO x 0)) (x (ordO x 1)) (x (ordO x 2)) (corE s F a (ordO x)))) (results_cell_row rfl _ _ _ _ _ _ _ rfl hblk Try.underlying30 rfl (by kernel_rfl)) rfl ⟨_, rfl, fun i _ => (cl_G ..).trans ((HV.out i).trans (tetV4 s0 (by rw [s1, t0]; rfl) (by rw [t1]; rfl) u1)).symm, hb2⟩
                case true =>
                  go_wp2
                  have hblk := H4.out.b2.set3 (.float .f32 (corE s F a (ordO x) 3 0)) (.float .f32 (corE s F a (ordO x) 3 1)) (.float .f32 (corE s F a (ordO x) 3 2))
                  have hb2 := ((H4.out.be.setCell (p := ⟨w.heap.size + 1 + 1, 0, none⟩) (by simp; omega) (.float .f32 (corE s F a (ordO x) 3 0))).setCell (p := ⟨w.heap.size + 1 + 1, 1, none⟩) (by simp; omega) (.float .f32 (corE s F a (ordO x) 3 1))).setCell (p := ⟨w.heap.size + 1 + 1, 2, none⟩) (by simp; omega) (.float .f32 (corE s F a (ordO x) 3 2))
                  exact bodyPost_ret (v := arr (corE s F a (ordO x) 3)) (results_cell_row rfl _ _ _ _ _ _ _ rfl hblk Try.underlying30 rfl (by kernel_rfl)) rfl ⟨_, rfl, fun i _ => ((HV.out i).trans (tetV3 s0 (by rw [s1, t0]; rfl) (by rw [t1]; rfl) u1)).symm, hb2⟩
              case true =>
                cases u0 : FloatKind.f32.format.order (x (ordO x 2)) 0 == some .eq
                case false =>
                  cases u1 : FloatKind.f32.format.order (x (ordO x 2)) 1065353216 == some .eq
                  case false =>
                    go_wp2_with fail
                    refine (each_any 121 #[.pointer (some ⟨w2.heap.size + 1, 0, none⟩), .pointer (some ⟨bs, 0, none⟩), .pointer (some ⟨bt, 0, none⟩), .pointer (some ⟨bu, 0, none⟩)] enters_tetra2 (corE s F a (ordO x) 0) (G (x (ordO x 0)) (x (ordO x 1)) (x (ordO x 2)) (corE s F a (ordO x))) wr (fun k w1 hk hb => tetra2_any (w2.heap.size + 1) bs bt bu (corE s F a (ordO x) 0 k) (x (ordO x 0)) (x (ordO x 1)) (x (ordO x 2)) k (corE s F a (ordO x)) w1 hk (HB11.out.below hb HB11.out.lt) (H4.out.bS.below hb H4.out.bS.lt) (H4.out.bT.below hb H4.out.bT.lt) (H4.out.bU.below hb H4.out.bU.lt))).mono ?_
                    rintro e w5 ⟨rfl, hb5⟩
                    have ya := H4.out.b2.below hb5 H4.out.b2.lt
                    have HE5 := hid (below_to H4.out.be hb5)
                    have HY := hid ya
                    have y0 := ya.cell 0
                    have y1 := ya.cell 1
                    have y2 := ya.cell 2
                    have yf := fun i => ya.frozen i
                    simp at y0 y1 y2
                    clear hb5 ya
                    go_wp2
                    have hblk := HY.out.set3 (.float .f32 (G (x (ordO x 0)) (x (ordO x 1)) (x (ordO x 2)) (corE s F a (ordO x)) 0)) (.float .f32 (G (x (ordO x 0)) (x (ordO x 1)) (x (ordO x 2)) (corE s F a (ordO x)) 1)) (.float .f32 (G (x (ordO x 0)) (x (ordO x 1)) (x (ordO x 2)) (corE s F a (ordO x)) 2))
                    have hb2 := ((HE5.out.setCell (p := ⟨w.heap.size + 1 + 1, 0, none⟩) (by simp; omega) (.float .f32 (G (x (ordO x 0)) (x (ordO x 1)) (x (ordO x 2)) (corE s F a (ordO x)) 0))).setCell (p := ⟨w.heap.size + 1 + 1, 1, none⟩) (by simp; omega) (.float .f32 (G (x (ordO x 0)) (x (ordO x 1)) (x (ordO x 2)) (corE s F a (ordO x)) 1))).setCell (p := ⟨w.heap.size + 1 + 1, 2, none⟩) (by simp; omega) (.float .f32 (G (x (ordO x 0)) (x (ordO x 1)) (x (ordO x 2)) (corE s F a (ordO x)) 2))
                    exact bodyPost_ret (v := arr (G (x (ordO x 0)) (x (ordO x 1)) (x (ordO x 2)) (corE s F a (ordO x)))) (results_cell_row rfl _ _ _ _ _ _ _ rfl hblk Try.underlying30 rfl (by kernel_rfl)) rfl ⟨_, rfl, fun i _ => (cl_G ..).trans ((HV.out i).trans (tetV4 s0 (by rw [s1, t0]; rfl) (by rw [t1, u0]; rfl) u1)).symm, hb2⟩
                  case true =>
                    go_wp2
                    have hblk := H4.out.b2.set3 (.float .f32 (corE s F a (ordO x) 3 0)) (.float .f32 (corE s F a (ordO x) 3 1)) (.float .f32 (corE s F a (ordO x) 3 2))
                    have hb2 := ((H4.out.be.setCell (p := ⟨w.heap.size + 1 + 1, 0, none⟩) (by simp; omega) (.float .f32 (corE s F a (ordO x) 3 0))).setCell (p := ⟨w.heap.size + 1 + 1, 1, none⟩) (by simp; omega) (.float .f32 (corE s F a (ordO x) 3 1))).setCell (p := ⟨w.heap.size + 1 + 1, 2, none⟩) (by simp; omega) (.float .f32 (corE s F a (ordO x) 3 2))
                    exact bodyPost_ret (v := arr (corE s F a (ordO x) 3)) (results_cell_row rfl _ _ _ _ _ _ _ rfl hblk Try.underlying30 rfl (by kernel_rfl)) rfl ⟨_, rfl, fun i _ => ((HV.out i).trans (tetV3 s0 (by rw [s1, t0]; rfl) (by rw [t1, u0]; rfl) u1)).symm, hb2⟩
                case true =>
                  go_wp2
                  have hblk := H4.out.b2.set3 (.float .f32 (corE s F a (ordO x) 2 0)) (.float .f32 (corE s F a (ordO x) 2 1)) (.float .f32 (corE s F a (ordO x) 2 2))
                  have hb2 := ((H4.out.be.setCell (p := ⟨w.heap.size + 1 + 1, 0, none⟩) (by simp; omega) (.float .f32 (corE s F a (ordO x) 2 0))).setCell (p := ⟨w.heap.size + 1 + 1, 1, none⟩) (by simp; omega) (.float .f32 (corE s F a (ordO x) 2 1))).setCell (p := ⟨w.heap.size + 1 + 1, 2, none⟩) (by simp; omega) (.float .f32 (corE s F a (ordO x) 2 2))
                  exact bodyPost_ret (v := arr (corE s F a (ordO x) 2)) (results_cell_row rfl _ _ _ _ _ _ _ rfl hblk Try.underlying30 rfl (by kernel_rfl)) rfl ⟨_, rfl, fun i _ => ((HV.out i).trans (tetV2 s0 (by rw [s1, t0]; rfl) (by rw [t1, u0]; rfl))).symm, hb2⟩
            case true =>
              go_wp2
              have hblk := H4.out.b2.set3 (.float .f32 (corE s F a (ordO x) 1 0)) (.float .f32 (corE s F a (ordO x) 1 1)) (.float .f32 (corE s F a (ordO x) 1 2))
              have hb2 := ((H4.out.be.setCell (p := ⟨w.heap.size + 1 + 1, 0, none⟩) (by simp; omega) (.float .f32 (corE s F a (ordO x) 1 0))).setCell (p := ⟨w.heap.size + 1 + 1, 1, none⟩) (by simp; omega) (.float .f32 (corE s F a (ordO x) 1 1))).setCell (p := ⟨w.heap.size + 1 + 1, 2, none⟩) (by simp; omega) (.float .f32 (corE s F a (ordO x) 1 2))
              exact bodyPost_ret (v := arr (corE s F a (ordO x) 1)) (results_cell_row rfl _ _ _ _ _ _ _ rfl hblk Try.underlying30 rfl (by kernel_rfl)) rfl ⟨_, rfl, fun i _ => ((HV.out i).trans (tetV1 s0 (by rw [s1, t0]; rfl))).symm, hb2⟩
        case true =>
          go_wp2
          have hblk := H4.out.b2.set3 (.float .f32 (corE s F a (ordO x) 0 0)) (.float .f32 (corE s F a (ordO x) 0 1)) (.float .f32 (corE s F a (ordO x) 0 2))
          have hb2 := ((H4.out.be.setCell (p := ⟨w.heap.size + 1 + 1, 0, none⟩) (by simp; omega) (.float .f32 (corE s F a (ordO x) 0 0))).setCell (p := ⟨w.heap.size + 1 + 1, 1, none⟩) (by simp; omega) (.float .f32 (corE s F a (ordO x) 0 1))).setCell (p := ⟨w.heap.size + 1 + 1, 2, none⟩) (by simp; omega) (.float .f32 (corE s F a (ordO x) 0 2))
          exact bodyPost_ret (v := arr (corE s F a (ordO x) 0)) (results_cell_row rfl _ _ _ _ _ _ _ rfl hblk Try.underlying30 rfl (by kernel_rfl)) rfl ⟨_, rfl, fun i _ => ((HV.out i).trans (tetV0 s0)).symm, hb2⟩
end Go.Proofs.Ythnbfllhmjpbjaa
