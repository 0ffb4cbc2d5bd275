/-
  Grained's function value.
-/
import Derived.Test.YthoiiccecneefaaQGn
namespace Go.Proofs.Ythoiiccecneefaa
open Go.RowKit Go.Shelf
attribute [local go_sem] run_store_float

def chM (m : Bool) (ch : Nat) : Nat := if m = true then 0 else ch
theorem noise_any (sd z num x y : Int) (s f ch : Nat) (m : Bool) (w : World) (z1 : 1 ≤ z) (z2 : z ≤ 16) (x1 : -1048576 ≤ x) (x2 : x ≤ 1048576) (y1 : -1048576 ≤ y) (y2 : y ≤ 1048576) (hch : ch ≤ 3) :
    Calls Try.prog 70 #[grn sd z s f m, .int .i64 num, .int .i64 x, .int .i64 y, .int .i64 ch] w fun e w' => ∃ b, e = .returned (.float .f32 b) ∧ cl b = noiC sd z num x y (chM m ch) ∧ Below w.heap.size w w' := by
  cases m
  · exact noise_poly sd z num x y s f ch w z1 z2 x1 x2 y1 y2 hch
  · exact noise_mono sd z num x y s f ch w z1 z2 x1 x2 y1 y2

theorem limC_cn (v lo hi : Nat) : limC (cn .f32 v) lo hi = limC v lo hi := by
  have e : ∀ t, FloatKind.f32.format.order (cn .f32 v) t = FloatKind.f32.format.order v t := fun t => by
    have h1 := order_cn .f32 (cn .f32 v) t
    have h2 := order_cn .f32 v t
    rw [cn_cn] at h1
    exact h1.symm.trans h2
  unfold limC
  rw [e, e]
  congr 2
  exact cn_cn ..

theorem limC_of {a b : Nat} (h : cn .f32 a = cn .f32 b) (lo hi : Nat) : limC a lo hi = limC b lo hi := by rw [← limC_cn a, h, limC_cn]
/-- A channel with grain. -/
def graK (n s f c : Nat) : Nat := cop .add .f32 c (cop .mul .f32 (cop .mul .f32 n s) (limC (cop .sub .f32 1065353216 (cop .mul .f32 f c)) 0 1065353216))

set_option maxRecDepth 100000 in
set_option maxHeartbeats 4000000 in
theorem grained1_any (sd z num x y : Int) (s f c ch bg bn bx b1 : Nat) (m : Bool) (w : World) (z1 : 1 ≤ z) (z2 : z ≤ 16) (x1 : -1048576 ≤ x) (x2 : x ≤ 1048576) (y1 : -1048576 ≤ y) (y2 : y ≤ 1048576) (hch : ch ≤ 3)
    (hg : Blk w bg 45 (grnA sd z s f m)) (hn : Blk w bn 3 #[.int .i64 num]) (hx : Blk w bx 3 #[.int .i64 x]) (hy : Blk w b1 3 #[.int .i64 y]) :
    Calls Try.prog 69 #[.int .i64 ch, .float .f32 c, .pointer (some ⟨bg, 0, none⟩), .pointer (some ⟨bn, 0, none⟩), .pointer (some ⟨bx, 0, none⟩), .pointer (some ⟨b1, 0, none⟩)] w (Gave w (graK (noiC sd z num x y (chM m ch)) s f c)) := by
  have g0 := hg.cell 0
  have g1 := hg.cell 1
  have g2 := hg.cell 2
  have g3 := hg.cell 3
  have g4 := hg.cell 4
  have n0 := hn.cell 0
  have x0 := hx.cell 0
  have y0 := hy.cell 0
  simp at g0 g1 g2 g3 g4 n0 x0 y0
  have HG := hid hg
  have HNO := hid fun wz => noise_any sd z num x y s f ch m wz z1 z2 x1 x2 y1 y2 hch
  obtain ⟨nv, hnv⟩ : ∃ nv, nv = noiC sd z num x y (chM m ch) := ⟨_, rfl⟩
  rw [← hnv] at HNO ⊢
  clear hg hn hx hy hnv z1 z2 x1 x2 y1 y2
  go_enter Try.func69, Try.ntmps69
  go_wp2_with fail
  refine (HNO.out _).mono ?_
  rintro e w1 ⟨b, rfl, hb, hbe⟩
  have hg1 := HG.out.below hbe HG.out.lt
  have q2 := hg1.cell 2
  have q3 := hg1.cell 3
  simp at q2 q3
  have HB := hid hb
  have HBE := hid hbe
  clear hb hbe hg1 HNO g0 g1 g2 g3 g4 n0 x0 y0 HG
  go_wp2_with (go_at_call 71; refine (limn_any _ _ _ _).mono ?_; rintro e w' ⟨rfl, rfl⟩)
  go_ret
  refine ⟨_, rfl, ?_, by first | exact HBE.out | exact below_drewN HBE.out _ | exact below_drewN (below_drewN HBE.out _) _⟩
  unfold graK cl
  have hbn : cn .f32 b = cn .f32 nv := by
    rw [← HB.out]
    exact (cn_cn ..).symm
  exact (cnf rfl (cnf (cnf hbn rfl) (congrArg (cn .f32) (limC_of (cnf rfl (cnf rfl rfl)) _ _)))).trans (cn_cop ..)

theorem enters_grained1 (args : Array Value) (w : World) : (callFunc 69 args).run Try.prog w = .ok (.enter 69 args) w := enters_of Try.func69 (by kernel_rfl) rfl args w

/-- A pixel with grain. -/
def grp (sd z num x y : Int) (s f : Nat) (m : Bool) (P : Nat → Nat) : Nat → Nat := col P fun k => graK (noiC sd z num x y (chM m k)) s f (P k)
def placeB (x : Int) : Bool := decide (-1048576 ≤ x ∧ x ≤ 1048576)
theorem isPlace_any (x : Int) (w : World) : Calls Try.prog 67 #[.int .i64 x] w fun e w' => e = .returned (.bool (placeB x)) ∧ w = w' := by
  by_cases h1 : -1048576 ≤ x
  · by_cases h2 : x ≤ 1048576
    · have hq : RowKit.Hid (placeB x = true) := hid (by simp [placeB]; omega)
      go_enter Try.func67, Try.ntmps67
      go_wp2
      go_ret
      exact ⟨by rw [hq.out]; rfl, rfl⟩
    · have hq : RowKit.Hid (placeB x = false) := hid (by simp [placeB]; omega)
      go_enter Try.func67, Try.ntmps67
      go_wp2
      go_ret
      exact ⟨by rw [hq.out]; rfl, rfl⟩
  · have hq : RowKit.Hid (placeB x = false) := hid (by simp [placeB]; omega)
    go_enter Try.func67, Try.ntmps67
    go_wp2
    go_ret
    exact ⟨by rw [hq.out]; rfl, rfl⟩
end Go.Proofs.Ythoiiccecneefaa
