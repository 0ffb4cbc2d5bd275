/-
  A place in a region, whatever place, in the reference; what the law's function values say.
-/
import Derived.Test.YtjlghjblpbckfaaFPasR
import Derived.Test.YtjlghjblpbckfaaFFill
namespace Go.Proofs.Ytjlghjblpbckfaa
open Go.RowKit Go.Shelf
attribute [local go_sem] run_store_float

set_option maxRecDepth 100000 in
set_option maxHeartbeats 2000000 in
theorem insiderW_any (x y a b x' y' a' b' : Int) (a1 : 0 ≤ a) (a2 : a ≤ 256) (b1 : 0 ≤ b) (b2 : b ≤ 256) (s' : Small x' y' a' b') (w : World) :
    Calls Try.prog 20 #[reg x y a b, reg x' y' a' b'] w fun e w' => e = .returned (.bool (inB x y a b x' y' a' b')) ∧ Below w.heap.size w w' := by
  obtain ⟨x1', x2', y1', y2', a1', a2', b1', b2'⟩ := s'
  by_cases k0 : x' ≤ x
  case' neg =>
    have hB : inB x y a b x' y' a' b' = false := inB_false.2 (fun h => k0 (by omega))
    go_enter Try.func20, Try.ntmps20
    go_wp2
    try (go_quiet (fail); go_wp2)
    go_ret
    first | exact ⟨rfl, below_drewN (((Below.refl _ _).alloc (Nat.le_refl _) _).alloc (by simp) _) _⟩ | exact ⟨rfl, (((Below.refl _ _).alloc (Nat.le_refl _) _).alloc (by simp) _)⟩ | exact ⟨by rw [hB]; rfl, (((Below.refl _ _).alloc (Nat.le_refl _) _).alloc (by simp) _)⟩
  by_cases k1 : y' ≤ y
  case' neg =>
    have hB : inB x y a b x' y' a' b' = false := inB_false.2 (fun h => k1 (by omega))
    go_enter Try.func20, Try.ntmps20
    go_wp2
    try (go_quiet (fail); go_wp2)
    go_ret
    first | exact ⟨rfl, below_drewN (((Below.refl _ _).alloc (Nat.le_refl _) _).alloc (by simp) _) _⟩ | exact ⟨rfl, (((Below.refl _ _).alloc (Nat.le_refl _) _).alloc (by simp) _)⟩ | exact ⟨by rw [hB]; rfl, (((Below.refl _ _).alloc (Nat.le_refl _) _).alloc (by simp) _)⟩
  by_cases k2 : x ≤ x' + a' - a
  case' neg =>
    have hB : inB x y a b x' y' a' b' = false := inB_false.2 (fun h => k2 (by omega))
    go_enter Try.func20, Try.ntmps20
    go_wp2
    try (go_quiet (fail); go_wp2)
    go_ret
    first | exact ⟨rfl, below_drewN (((Below.refl _ _).alloc (Nat.le_refl _) _).alloc (by simp) _) _⟩ | exact ⟨rfl, (((Below.refl _ _).alloc (Nat.le_refl _) _).alloc (by simp) _)⟩ | exact ⟨by rw [hB]; rfl, (((Below.refl _ _).alloc (Nat.le_refl _) _).alloc (by simp) _)⟩
  by_cases k3 : y ≤ y' + b' - b
  case' neg =>
    have hB : inB x y a b x' y' a' b' = false := inB_false.2 (fun h => k3 (by omega))
    go_enter Try.func20, Try.ntmps20
    go_wp2
    try (go_quiet (fail); go_wp2)
    go_ret
    first | exact ⟨rfl, below_drewN (((Below.refl _ _).alloc (Nat.le_refl _) _).alloc (by simp) _) _⟩ | exact ⟨rfl, (((Below.refl _ _).alloc (Nat.le_refl _) _).alloc (by simp) _)⟩ | exact ⟨by rw [hB]; rfl, (((Below.refl _ _).alloc (Nat.le_refl _) _).alloc (by simp) _)⟩
  have hB : inB x y a b x' y' a' b' = true := inB_true.2 (by omega)
  go_enter Try.func20, Try.ntmps20
  go_wp2
  try (go_quiet (fail); go_wp2)
  go_ret
  first | exact ⟨rfl, below_drewN (((Below.refl _ _).alloc (Nat.le_refl _) _).alloc (by simp) _) _⟩ | exact ⟨rfl, (((Below.refl _ _).alloc (Nat.le_refl _) _).alloc (by simp) _)⟩ | exact ⟨by rw [hB]; rfl, (((Below.refl _ _).alloc (Nat.le_refl _) _).alloc (by simp) _)⟩

theorem enters_law1 (args : Array Value) (w : World) : (callFunc 25 args).run Try.prog w = .ok (.enter 25 args) w := enters_of Try.func25 (by kernel_rfl) rfl args w
theorem enters_law2 (args : Array Value) (w : World) : (callFunc 29 args).run Try.prog w = .ok (.enter 29 args) w := enters_of Try.func29 (by kernel_rfl) rfl args w

set_option maxRecDepth 100000 in
theorem law1_any (x y : Int) (bp : Nat) (P : Nat → Nat) (w : World) (hbp : Blk w bp 42 (pixC P)) :
    Calls Try.prog 25 #[.int .i64 x, .int .i64 y, .pointer (some ⟨bp, 0, none⟩)] w (PixGave w fun k => cl (P k)) := by
  have c0 := hbp.cell 0
  have c1 := hbp.cell 1
  have c2 := hbp.cell 2
  have c3 := hbp.cell 3
  simp at c0 c1 c2 c3
  have lp := hbp.lt
  have HBK : RowKit.Hid (Blk (w.alloc (.cells (pixC P) 42)) w.heap.size 42 (pixC P)) := Blk.new_at _ _ _ rfl
  clear hbp
  go_enter Try.func25, Try.ntmps25
  go_wp2
  refine bodyPost_ret (v := pix P) (results_cell_row rfl _ _ _ _ _ _ _ rfl HBK.out Try.underlying42 rfl (by kernel_rfl)) rfl ⟨P, rfl, fun _ _ => rfl, ?_⟩
  exact (Below.refl _ _).alloc (Nat.le_refl _) _

set_option maxRecDepth 100000 in
theorem law2_any (x y : Int) (bp : Nat) (P : Nat → Nat) (w : World) (hbp : Blk w bp 42 (pixC P)) :
    Calls Try.prog 29 #[.int .i64 x, .int .i64 y, .pointer (some ⟨bp, 0, none⟩)] w (PixGave w fun k => cl (P k)) := by
  have c0 := hbp.cell 0
  have c1 := hbp.cell 1
  have c2 := hbp.cell 2
  have c3 := hbp.cell 3
  simp at c0 c1 c2 c3
  have lp := hbp.lt
  have HBK : RowKit.Hid (Blk (w.alloc (.cells (pixC P) 42)) w.heap.size 42 (pixC P)) := Blk.new_at _ _ _ rfl
  clear hbp
  go_enter Try.func29, Try.ntmps29
  go_wp2
  refine bodyPost_ret (v := pix P) (results_cell_row rfl _ _ _ _ _ _ _ rfl HBK.out Try.underlying42 rfl (by kernel_rfl)) rfl ⟨P, rfl, fun _ _ => rfl, ?_⟩
  exact (Below.refl _ _).alloc (Nat.le_refl _) _

/-- Made over the law's function values: every pixel is P. -/
theorem made_law1 (X Y : Int) (p q m bp : Nat) (P : Nat → Nat) (w : World) (h : regE X Y p q = 0) (hm : m = 4 * (p * q)) (hbp : Blk w bp 42 (pixC P)) :
    Calls Try.prog 24 #[reg X Y p q, .func (.func 25) #[] #[.pointer (some ⟨bp, 0, none⟩)]] w (Framed w X Y p q m fun t => cl (P (t % 4))) := by
  obtain ⟨a1, a2, b1, b2, ab, x1, x2, y1, y2⟩ := regE_zero h
  have hmi : ((p * q : Nat) : Int) = (p : Int) * (q : Int) := by push_cast; rfl
  exact made_any 25 #[.pointer (some ⟨bp, 0, none⟩)] enters_law1 X Y p q m (fun _ _ k => cl (P k)) w hm (by omega) (by omega) (by omega) (by omega) (by omega) (by omega) (by omega) (by omega) (by omega)
    fun i j w1 _ _ hb => law1_any (X + i) (Y + j) bp P w1 (hbp.below hb hbp.lt)
theorem made_law2 (X Y : Int) (p q m bp : Nat) (P : Nat → Nat) (w : World) (h : regE X Y p q = 0) (hm : m = 4 * (p * q)) (hbp : Blk w bp 42 (pixC P)) :
    Calls Try.prog 24 #[reg X Y p q, .func (.func 29) #[] #[.pointer (some ⟨bp, 0, none⟩)]] w (Framed w X Y p q m fun t => cl (P (t % 4))) := by
  obtain ⟨a1, a2, b1, b2, ab, x1, x2, y1, y2⟩ := regE_zero h
  have hmi : ((p * q : Nat) : Int) = (p : Int) * (q : Int) := by push_cast; rfl
  exact made_any 29 #[.pointer (some ⟨bp, 0, none⟩)] enters_law2 X Y p q m (fun _ _ k => cl (P k)) w hm (by omega) (by omega) (by omega) (by omega) (by omega) (by omega) (by omega) (by omega) (by omega)
    fun i j w1 _ _ hb => law2_any (X + i) (Y + j) bp P w1 (hbp.below hb hbp.lt)
end Go.Proofs.Ytjlghjblpbckfaa
