/-
  Sharpening: the mean around a place, of the program.
-/
import Derived.Test.YthoiiccecneefaaQSa
import Derived.Test.YthoiiccecneefaaQGn
namespace Go.Proofs.Ythoiiccecneefaa
open Go.RowKit Go.Shelf
attribute [local go_sem] run_store_float

/-- What the loops of meanAround keep. -/
structure MR (X Y : Int) (p q n c : Nat) (A : Option Addr) (N : Nat → Nat) (k : Nat) (w wr : World) : Prop where
  f : Blk wr w.heap.size 26 #[.int .i64 X, .int .i64 Y, .int .i64 p, .int .i64 q, .slice A n c]
  u : wr.rowIs (w.heap.size + 1) 145 9 (fun j => .float .f32 (if j < k then N j else 0))
  be : Below w.heap.size w wr
theorem MR.below {X Y : Int} {p q n c : Nat} {A : Option Addr} {N : Nat → Nat} {k : Nat} {w wr w1 : World} (h : MR X Y p q n c A N k w wr) (hb : Below wr.heap.size wr w1) : MR X Y p q n c A N k w w1 :=
  ⟨h.f.below hb h.f.lt, rowIs_below h.u hb h.u.lt, below_to h.be hb⟩
theorem MR.step {X Y : Int} {p q n c : Nat} {A : Option Addr} {N : Nat → Nat} {k : Nat} {w wr : World} (h : MR X Y p q n c A N k w wr) {v : Nat} (hv : v = N k) : MR X Y p q n c A N (k + 1) w (wr.setCell ⟨w.heap.size + 1, k, none⟩ (.float .f32 v)) := by
  subst hv
  exact ⟨h.f.far (by simp) _, World.rowIs.congr (h.u.set k _) (fun i _ => by
      by_cases hi : i = k
      · subst hi; simp
      · by_cases h2 : i < k
        · simp [hi, h2, show i < k + 1 by omega]
        · simp [hi, h2, show ¬ i < k + 1 by omega]), h.be.setCell (by simp) _⟩

set_option maxRecDepth 100000 in
set_option maxHeartbeats 8000000 in
theorem meanAround_any (X Y : Int) (p q n c i j ch : Nat) (A : Option Addr) (F : Nat → Nat) (w : World) (hi : i < p) (hj : j < q) (hch : ch < 4) (hn : n = 4 * (p * q)) (hn2 : n ≤ 65536)
    (hp2 : p ≤ 256) (hq2 : q ≤ 256) (x1 : -1048576 ≤ X) (x2 : X + p ≤ 1048576) (y1 : -1048576 ≤ Y) (y2 : Y + q ≤ 1048576) (hF : Src w A n F) :
    Calls Try.prog 84 #[frm X Y p q A n c, .int .i64 (X + i), .int .i64 (Y + j), .int .i64 ch] w fun e w' => ∃ b, e = .returned (.float .f32 b) ∧ cl b = mnC (nbr F p q i j ch) ∧ Below w.heap.size w w' := by
  obtain ⟨N, hN⟩ : ∃ N, N = nbr F p q i j ch := ⟨_, rfl⟩
  have HNE : RowKit.Hid (∀ (wz : World) (k : Nat), k < 9 → Below w.heap.size w wz → Calls Try.prog 119 #[frm X Y p q A n c, .int .i64 (X + i + (k : Int) % 3 - 1), .int .i64 (Y + j + (k : Int) / 3 - 1), .int .i64 ch] wz fun e w' => e = .returned (.float .f32 (N k)) ∧ Below wz.heap.size wz w') := hid fun wz k hk hb => by
    rw [hN]
    rw [show (k : Int) % 3 = ((k % 3 : Nat) : Int) by omega, show (k : Int) / 3 = ((k / 3 : Nat) : Int) by omega]
    have hp : 0 < p := by omega
    have hq : 0 < q := by omega
    exact nearest_any X Y (X + i + (k % 3 : Nat) - 1) (Y + j + (k / 3 : Nat) - 1) p q n c (clN i (k % 3) p) (clN j (k / 3) q) ch A F wz (clN_lt hp) (clN_lt hq) hch hn hn2 hp2 hq2 x1 (by omega) y1 (by omega) (by omega) (by omega) (by omega) (by omega) (clN_prog hi) (clN_prog hj) (hF.below hb)
  have HB1 : RowKit.Hid (-1048576 ≤ X + i ∧ X + i ≤ 1048576 ∧ -1048576 ≤ Y + j ∧ Y + j ≤ 1048576) := hid (by omega)
  rw [← hN]
  have HZ : RowKit.Hid (MR X Y p q n c A N 0 w ((w.alloc (.cells #[.int .i64 X, .int .i64 Y, .int .i64 p, .int .i64 q, .slice A n c] 26)).alloc (.cells #[.float .f32 0, .float .f32 0, .float .f32 0, .float .f32 0, .float .f32 0, .float .f32 0, .float .f32 0, .float .f32 0, .float .f32 0] 145))) := by
    refine hid ⟨(Blk.new_at _ _ _ rfl).alloc _, ?_, ((Below.refl _ _).alloc (Nat.le_refl _) _).alloc (by simp) _⟩
    refine World.rowIs.congr (f := fun _ => .float .f32 0) ⟨_, Blk.new_at _ _ _ (by simp), rfl, fun i hi => ?_⟩ (fun i _ => by simp)
    have h9 : i = 0 ∨ i = 1 ∨ i = 2 ∨ i = 3 ∨ i = 4 ∨ i = 5 ∨ i = 6 ∨ i = 7 ∨ i = 8 := by omega
    rcases h9 with rfl | rfl | rfl | rfl | rfl | rfl | rfl | rfl | rfl <;> rfl
  clear hF hN hn hn2 hp2 hq2 x1 x2 y1 y2 hi hj hch
  obtain ⟨x, hx⟩ : ∃ x, x = X + (i : Int) := ⟨_, rfl⟩
  obtain ⟨y, hy⟩ : ∃ y, y = Y + (j : Int) := ⟨_, rfl⟩
  rw [← hx, ← hy] at HNE HB1 ⊢
  clear hx hy
  have b1 := HB1.out.1
  have b2 := HB1.out.2.1
  have b3 := HB1.out.2.2.1
  have b4 := HB1.out.2.2.2
  go_enter Try.func84, Try.ntmps84
  go_wp2_with fail
  go_loopw [14] (fun i wr => ∃ k : Nat, k ≤ 9 ∧ i = .int .i64 k ∧ MR X Y p q n c A N k w wr) (fun i _ => 9 - (intOf i).toNat)
  case atStart => exact ⟨0, by omega, rfl, HZ.out⟩
  case round =>
    clear HZ
    obtain ⟨k, hk, rfl, hr⟩ := hrel
    have HR := hid hr
    clear hr
    by_cases hk9 : k < 9
    · have f0 := HR.out.f.cell 0
      have f1 := HR.out.f.cell 1
      have f2 := HR.out.f.cell 2
      have f3 := HR.out.f.cell 3
      have f4 := HR.out.f.cell 4
      simp at f0 f1 f2 f3 f4
      have k0 : (0 : Int) ≤ (k : Int) := by omega
      have k1 : (k : Int) < 9 := by omega
      go_wp2_with fail
      refine (HNE.out _ k hk9 HR.out.be).mono ?_
      rintro e w2 ⟨rfl, hb⟩
      have H2 := hid (HR.out.below hb)
      have cc := H2.out.u.cell hk9
      have fr := H2.out.u.frozen k
      have HS := hid (H2.out.step (rfl : N k = N k))
      simp at cc
      clear hb HR f0 f1 f2 f3 f4
      go_wp2_with fail
      go_roundw
      case rel => exact ⟨k + 1, by omega, by go_num, HS.out⟩
      case measure => simp [intOf]; omega
    · obtain rfl : k = 9 := by omega
      have u0 := HR.out.u.cell (i := 0) (by omega)
      simp at u0
      have lu := HR.out.u.lt
      clear HNE
      go_wp2_with fail
      go_loopw [11, 37] (fun s i wr => ∃ k : Nat, k ≤ 8 ∧ i = .int .i64 k ∧ ∃ b, s = .float .f32 b ∧ cl b = smN N k ∧ MR X Y p q n c A N 9 w wr) (fun _ i _ => 8 - (intOf i).toNat)
      case atStart => exact ⟨0, by omega, rfl, _, rfl, rfl, HR.out⟩
      case round =>
        clear HR u0 lu
        obtain ⟨k, hk2, rfl, b, rfl, hbs, hr⟩ := hrel
        have HR := hid hr
        have HBS := hid hbs
        clear hr hbs
        by_cases hk8 : k < 8
        · have ck := HR.out.u.cell (i := 1 + k) (by omega)
          rw [if_pos (by omega)] at ck
          have k0 : (0 : Int) ≤ (k : Int) := by omega
          have k1 : (k : Int) < 8 := by omega
          have hadd : ∀ w, cl (fop .add .f32 b (N (1 + k)) w) = smN N (k + 1) := fun w => by
            show cn .f32 _ = cop .add .f32 (smN N k) (N (k + 1))
            rw [Nat.add_comm 1 k]
            exact (cnf (a' := smN N k) (by rw [← HBS.out]; exact (cn_cn ..).symm) rfl).trans (cn_cop ..)
          have HAD := hid hadd
          clear hadd
          go_wp2_with fail
          go_roundw
          case rel => exact ⟨k + 1, by omega, by go_num, _, rfl, HAD.out _, HR.out.below (below_drewN (Below.refl _ _) _)⟩
          case measure => simp [intOf]; omega
        · obtain rfl : k = 8 := by omega
          have HBE := hid HR.out.be
          clear HR
          go_wp2_with fail
          go_ret
          refine ⟨_, rfl, ?_, below_drewN HBE.out _⟩
          unfold mnC
          exact (cnf (a' := smN N 8) (by rw [← HBS.out]; exact (cn_cn ..).symm) rfl).trans (cn_cop ..)
end Go.Proofs.Ythoiiccecneefaa
