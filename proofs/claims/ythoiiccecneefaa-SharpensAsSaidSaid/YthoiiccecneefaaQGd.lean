/-
  Grained of the program.
-/
import Derived.Test.YthoiiccecneefaaQGp
namespace Go.Proofs.Ythoiiccecneefaa
open Go.RowKit Go.Shelf
attribute [local go_sem] run_store_float

abbrev zpx : Array Value := #[.float .f32 0, .float .f32 0, .float .f32 0, .float .f32 0]
/-- What stands in the boxes of Grained. -/
structure GB (sd z : Int) (s f : Nat) (m : Bool) (num x y : Int) (P : Nat → Nat) (w wr : World) : Prop where
  g : Blk wr w.heap.size 45 (grnA sd z s f m)
  n : Blk wr (w.heap.size + 1) 3 #[.int .i64 num]
  x : Blk wr (w.heap.size + 1 + 1) 3 #[.int .i64 x]
  y : Blk wr (w.heap.size + 1 + 1 + 1) 3 #[.int .i64 y]
  p : Blk wr (w.heap.size + 1 + 1 + 1 + 1) 47 (pixA P)
  r : Blk wr (w.heap.size + 1 + 1 + 1 + 1 + 1) 47 zpx
  be : Below w.heap.size w wr
theorem GB.below {sd z : Int} {s f : Nat} {m : Bool} {num x y : Int} {P : Nat → Nat} {w wr w1 : World} (h : GB sd z s f m num x y P w wr) (hb : Below wr.heap.size wr w1) : GB sd z s f m num x y P w w1 :=
  ⟨h.g.below hb h.g.lt, h.n.below hb h.n.lt, h.x.below hb h.x.lt, h.y.below hb h.y.lt, h.p.below hb h.p.lt, h.r.below hb h.r.lt, below_to h.be hb⟩
theorem GB.new (sd z : Int) (s f : Nat) (m : Bool) (num x y : Int) (P : Nat → Nat) (w : World) :
    GB sd z s f m num x y P w ((((((w.alloc (.cells (grnA sd z s f m) 45)).alloc (.cells #[.int .i64 num] 3)).alloc (.cells #[.int .i64 x] 3)).alloc (.cells #[.int .i64 y] 3)).alloc (.cells (pixA P) 47)).alloc (.cells zpx 47)) :=
  ⟨(((((Blk.new_at _ _ _ rfl).alloc _).alloc _).alloc _).alloc _).alloc _, ((((Blk.new_at _ _ _ (by simp)).alloc _).alloc _).alloc _).alloc _, (((Blk.new_at _ _ _ (by simp)).alloc _).alloc _).alloc _, ((Blk.new_at _ _ _ (by simp)).alloc _).alloc _, (Blk.new_at _ _ _ (by simp)).alloc _, Blk.new_at _ _ _ (by simp),
    ((((((Below.refl _ _).alloc (Nat.le_refl _) _).alloc (by simp) _).alloc (by simp; omega) _).alloc (by simp; omega) _).alloc (by simp; omega) _).alloc (by simp; omega) _⟩

/-- The error of Grained. -/
def grpE (z x y : Int) (s f : Nat) : Int := if grE z s f = 0 then (if (placeB x && placeB y) = true then 0 else 5) else grE z s f

set_option maxRecDepth 100000 in
set_option maxHeartbeats 4000000 in
theorem grained_any (sd z num x y : Int) (s f : Nat) (m : Bool) (P : Nat → Nat) (w : World) :
    Calls Try.prog 17 #[grn sd z s f m, .int .i64 num, .int .i64 x, .int .i64 y, pix P] w fun e w' => e = .returned (.tuple #[if grpE z x y s f = 0 then pix (grp sd z num x y s f m P) else .agg zpx, .int .i64 (grpE z x y s f)]) ∧ Below w.heap.size w w' := by
  have HN := hid (GB.new sd z s f m num x y P w)
  have hmf : ∀ (fn : Fn) (first cap : Array Value) (w : World), (Instr.makeFunc fn first cap).run Try.prog w = .ok (.func fn first cap) w := fun _ _ _ _ => rfl
  by_cases hE : grE z s f = 0
  · have z9 : (grE z s f != 0) = false := by simp [hE]
    cases hp : (placeB x && placeB y)
    · have HE : RowKit.Hid (grpE z x y s f = 5) := hid (by unfold grpE; rw [if_pos hE, hp]; rfl)
      rw [HE.out, if_neg (by decide)]
      clear HE hE
      rw [pix_cells P]
      cases h1 : placeB x <;> cases h2 : placeB y
      all_goals
        first
          | (rw [h1, h2] at hp; exact absurd hp (by decide))
          | (clear hp
             go_enter Try.func17, Try.ntmps17
             go_wp2_with fail
             refine (checkGrain_any _ _ _ _ _ _).mono ?_
             rintro e w1 ⟨rfl, hb⟩
             have H1 := hid (HN.out.below hb)
             have x0 := H1.out.x.cell 0
             have y0 := H1.out.y.cell 0
             have r0 := H1.out.r.cell 0
             have r1 := H1.out.r.cell 1
             have r2 := H1.out.r.cell 2
             have r3 := H1.out.r.cell 3
             have fz := fun i => H1.out.r.frozen i
             simp at x0 y0 r0 r1 r2 r3
             have HBK := hid (H1.out.r.set4 (.float .f32 0) (.float .f32 0) (.float .f32 0) (.float .f32 0))
             have HBE := hid H1.out.be
             clear hb
             go_wp2_with (go_at_call 67; refine (isPlace_any _ _).mono ?_; rintro e w' ⟨rfl, rfl⟩)
             refine bodyPost_ret (v := .tuple #[.agg zpx, .int .i64 5]) (results_row_tmp rfl _ _ _ _ _ _ rfl rfl HBK.out Try.underlying47 rfl (by kernel_rfl)) rfl ⟨rfl, ?_⟩
             exact (((HBE.out.setCell (by simp; omega) _).setCell (by simp; omega) _).setCell (by simp; omega) _).setCell (by simp; omega) _)
    · have HE : RowKit.Hid (grpE z x y s f = 0) := hid (by unfold grpE; rw [if_pos hE, hp]; rfl)
      rw [HE.out, if_pos rfl]
      obtain ⟨⟨z1, z2⟩, _, _⟩ := grE_zero hE
      rw [Bool.and_eq_true] at hp
      obtain ⟨h1, h2⟩ := hp
      have hx := of_decide_eq_true h1
      have hy := of_decide_eq_true h2
      have HCO : RowKit.Hid (∀ wz, GB sd z s f m num x y P w wz → Calls Try.prog 68 #[pix P, .func (.func 69) #[] #[.pointer (some ⟨w.heap.size, 0, none⟩), .pointer (some ⟨w.heap.size + 1, 0, none⟩), .pointer (some ⟨w.heap.size + 1 + 1, 0, none⟩), .pointer (some ⟨w.heap.size + 1 + 1 + 1, 0, none⟩)]] wz fun e w' => e = .returned (pix (grp sd z num x y s f m P)) ∧ Below wz.heap.size wz w') :=
        hid fun wz hz => coloured_any 69 _ enters_grained1 P (fun k => graK (noiC sd z num x y (chM m k)) s f (P k)) wz (fun k w1 hk hb =>
          grained1_any sd z num x y s f (P k) k w.heap.size (w.heap.size + 1) (w.heap.size + 1 + 1) (w.heap.size + 1 + 1 + 1) m w1 z1 z2 hx.1 hx.2 hy.1 hy.2 (by omega) (hz.below hb).g (hz.below hb).n (hz.below hb).x (hz.below hb).y)
      clear HE hE z1 z2 hx hy
      rw [pix_cells P] at HCO ⊢
      generalize grp sd z num x y s f m P = Q at *
      go_enter Try.func17, Try.ntmps17
      go_wp2_with fail
      refine (checkGrain_any _ _ _ _ _ _).mono ?_
      rintro e w1 ⟨rfl, hb⟩
      have H1 := hid (HN.out.below hb)
      have x0 := H1.out.x.cell 0
      have y0 := H1.out.y.cell 0
      have p0 := H1.out.p.cell 0
      have p1 := H1.out.p.cell 1
      have p2 := H1.out.p.cell 2
      have p3 := H1.out.p.cell 3
      simp at x0 y0 p0 p1 p2 p3
      clear hb
      go_wp2_with (first
        | (go_at_call 67; refine (isPlace_any _ _).mono ?_; rintro e w' ⟨rfl, rfl⟩))
      refine (HCO.out _ H1.out).mono ?_
      rintro e w2 ⟨rfl, hb⟩
      have H2 := hid (H1.out.below hb)
      have r0 := H2.out.r.cell 0
      have r1 := H2.out.r.cell 1
      have r2 := H2.out.r.cell 2
      have r3 := H2.out.r.cell 3
      have fz := fun i => H2.out.r.frozen i
      simp at r0 r1 r2 r3
      have HBK := hid (H2.out.r.set4 (.float .f32 (Q 0)) (.float .f32 (Q 1)) (.float .f32 (Q 2)) (.float .f32 (Q 3)))
      have HBE := hid H2.out.be
      clear hb x0 y0 p0 p1 p2 p3 HCO
      rw [pix_cells Q]
      go_wp2_with fail
      refine bodyPost_ret (v := .tuple #[pix Q, .int .i64 0]) (results_row_tmp rfl _ _ _ _ _ _ rfl rfl HBK.out Try.underlying47 rfl (by kernel_rfl)) rfl ⟨rfl, ?_⟩
      exact (((HBE.out.setCell (by simp; omega) _).setCell (by simp; omega) _).setCell (by simp; omega) _).setCell (by simp; omega) _
  · have z9 : (grE z s f != 0) = true := by simp [hE]
    have HE : RowKit.Hid (grpE z x y s f = grE z s f) := hid (by unfold grpE; rw [if_neg hE])
    rw [HE.out, if_neg hE]
    clear HE hE
    rw [pix_cells P]
    go_enter Try.func17, Try.ntmps17
    go_wp2_with fail
    refine (checkGrain_any _ _ _ _ _ _).mono ?_
    rintro e w1 ⟨rfl, hb⟩
    have H1 := hid (HN.out.below hb)
    have r0 := H1.out.r.cell 0
    have r1 := H1.out.r.cell 1
    have r2 := H1.out.r.cell 2
    have r3 := H1.out.r.cell 3
    have fz := fun i => H1.out.r.frozen i
    simp at r0 r1 r2 r3
    have HBK := hid (H1.out.r.set4 (.float .f32 0) (.float .f32 0) (.float .f32 0) (.float .f32 0))
    have HBE := hid H1.out.be
    clear hb
    go_wp2_with fail
    refine bodyPost_ret (v := .tuple #[.agg zpx, .int .i64 (grE z s f)]) (results_row_tmp rfl _ _ _ _ _ _ rfl rfl HBK.out Try.underlying47 rfl (by kernel_rfl)) rfl ⟨rfl, ?_⟩
    exact (((HBE.out.setCell (by simp; omega) _).setCell (by simp; omega) _).setCell (by simp; omega) _).setCell (by simp; omega) _
end Go.Proofs.Ythoiiccecneefaa
