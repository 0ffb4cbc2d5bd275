/-
  Cubes in the reference: LinearOf's function value.
-/
import Derived.Test.YthnbfllhmjpbjaaKRef
import Derived.Test.YthnbfllhmjpbjaaKLerp
import Derived.Deep.RegionHeld3
import Derived.Deep.Cut
namespace Go.Proofs.Ythnbfllhmjpbjaa
open Go.RowKit
attribute [local go_sem] run_store_float

theorem cell_to {w w' : World} (h : Below w.heap.size w w') {a : Addr} {v : Value} (hc : w.cell? a = some v) : w'.cell? a = some v :=
  (h.cell (World.block_lt_of_cell? w a hc)).trans hc

set_option maxRecDepth 100000 in
set_option maxHeartbeats 2000000 in
theorem red_any (s L H n c i j k dj dk mi x bc bi bj bk bm bx : Nat) (A : Option Addr) (F : Nat → Nat) (w : World) (hC : CubOk s L H n) (hi : i + 1 < s) (hj : j + dj < s) (hk : k + dk < s) (hm : mi < 3) (hF : Src w A n F)
    (c0 : w.cell? ⟨bc, 0, none⟩ = some (.int .i64 s)) (c1 : w.cell? ⟨bc, 1, none⟩ = some (.float .f32 L)) (c2 : w.cell? ⟨bc, 2, none⟩ = some (.float .f32 H)) (c3 : w.cell? ⟨bc, 3, none⟩ = some (.slice A n c))
    (ci : w.cell? ⟨bi, 0, none⟩ = some (.int .i64 i)) (cj : w.cell? ⟨bj, 0, none⟩ = some (.int .i64 j)) (ck : w.cell? ⟨bk, 0, none⟩ = some (.int .i64 k)) (cm : w.cell? ⟨bm, 0, none⟩ = some (.int .i64 mi)) (cx : w.cell? ⟨bx, 0, none⟩ = some (.float .f32 x)) :
    Calls Try.prog 77 #[.int .i64 dj, .int .i64 dk, .pointer (some ⟨bc, 0, none⟩), .pointer (some ⟨bi, 0, none⟩), .pointer (some ⟨bj, 0, none⟩), .pointer (some ⟨bk, 0, none⟩), .pointer (some ⟨bm, 0, none⟩), .pointer (some ⟨bx, 0, none⟩)] w
      fun e w' => e = .returned (.float .f32 (lerpC (cl (F (eIx s i (j + dj) (k + dk) + mi))) (cl (F (eIx s (i + 1) (j + dj) (k + dk) + mi))) x)) ∧ Below w.heap.size w w' := by
  have hs := hC.s2
  obtain ⟨J, hJ⟩ : ∃ J, J = j + dj := ⟨_, rfl⟩
  obtain ⟨K, hK⟩ : ∃ K, K = k + dk := ⟨_, rfl⟩
  obtain ⟨I, hI⟩ : ∃ I, I = i + 1 := ⟨_, rfl⟩
  rw [← hJ, ← hK, ← hI]
  rw [← hJ] at hj
  rw [← hK] at hk
  rw [← hI] at hi
  have e1 : (j : Int) + (dj : Int) = (J : Int) := by omega
  have e2 : (k : Int) + (dk : Int) = (K : Int) := by omega
  have e3 : (i : Int) + 1 = (I : Int) := by omega
  have u1 : (J : Int) ≤ 17 := by omega
  have u2 : (K : Int) ≤ 17 := by omega
  have u3 : (I : Int) ≤ 17 := by omega
  have w1 : IntKind.i64.wrap (J : Int) = (J : Int) := by rw [IntKind.wrap_i64]; omega
  have w2 : IntKind.i64.wrap (K : Int) = (K : Int) := by rw [IntKind.wrap_i64]; omega
  have w3 : IntKind.i64.wrap (I : Int) = (I : Int) := by rw [IntKind.wrap_i64]; omega
  have i1 : i < s := by omega
  obtain ⟨S, HS⟩ : ∃ S : World → Prop, RowKit.Hid (∀ wr, S wr ↔ Below w.heap.size w wr) := ⟨_, hid fun _ => Iff.rfl⟩
  have hS0 : w.drew.cell? ⟨bc, 0, none⟩ = some (.int .i64 s) ∧ w.drew.cell? ⟨bc, 1, none⟩ = some (.float .f32 L) ∧ w.drew.cell? ⟨bc, 2, none⟩ = some (.float .f32 H) ∧ w.drew.cell? ⟨bc, 3, none⟩ = some (.slice A n c) ∧ w.drew.cell? ⟨bi, 0, none⟩ = some (.int .i64 i) ∧ w.drew.cell? ⟨bj, 0, none⟩ = some (.int .i64 j) ∧ w.drew.cell? ⟨bk, 0, none⟩ = some (.int .i64 k) ∧ w.drew.cell? ⟨bm, 0, none⟩ = some (.int .i64 mi) ∧ w.drew.cell? ⟨bx, 0, none⟩ = some (.float .f32 x) ∧ S w.drew :=
    ⟨c0, c1, c2, c3, ci, cj, ck, cm, cx, (HS.out _).2 (Below.refl _ _).drew⟩
  have HK : RowKit.Hid (∀ W W' : World, (W.cell? ⟨bc, 0, none⟩ = some (.int .i64 s) ∧ W.cell? ⟨bc, 1, none⟩ = some (.float .f32 L) ∧ W.cell? ⟨bc, 2, none⟩ = some (.float .f32 H) ∧ W.cell? ⟨bc, 3, none⟩ = some (.slice A n c) ∧ W.cell? ⟨bi, 0, none⟩ = some (.int .i64 i) ∧ W.cell? ⟨bj, 0, none⟩ = some (.int .i64 j) ∧ W.cell? ⟨bk, 0, none⟩ = some (.int .i64 k) ∧ W.cell? ⟨bm, 0, none⟩ = some (.int .i64 mi) ∧ W.cell? ⟨bx, 0, none⟩ = some (.float .f32 x) ∧ S W) → Below W.heap.size W W' →
      (W'.cell? ⟨bc, 0, none⟩ = some (.int .i64 s) ∧ W'.cell? ⟨bc, 1, none⟩ = some (.float .f32 L) ∧ W'.cell? ⟨bc, 2, none⟩ = some (.float .f32 H) ∧ W'.cell? ⟨bc, 3, none⟩ = some (.slice A n c) ∧ W'.cell? ⟨bi, 0, none⟩ = some (.int .i64 i) ∧ W'.cell? ⟨bj, 0, none⟩ = some (.int .i64 j) ∧ W'.cell? ⟨bk, 0, none⟩ = some (.int .i64 k) ∧ W'.cell? ⟨bm, 0, none⟩ = some (.int .i64 mi) ∧ W'.cell? ⟨bx, 0, none⟩ = some (.float .f32 x) ∧ S W')) := hid (by
    rintro W W' ⟨a0, a1, a2, a3, a4, a5, a6, a7, a8, a9⟩ hb
    exact ⟨cell_to hb a0, cell_to hb a1, cell_to hb a2, cell_to hb a3, cell_to hb a4, cell_to hb a5, cell_to hb a6, cell_to hb a7, cell_to hb a8, (HS.out _).2 (below_to ((HS.out _).1 a9) (hb.mono (Nat.le_refl _)))⟩)
  have HE : RowKit.Hid (∀ (q : Nat), q < s → ∀ W, (W.cell? ⟨bc, 0, none⟩ = some (.int .i64 s) ∧ W.cell? ⟨bc, 1, none⟩ = some (.float .f32 L) ∧ W.cell? ⟨bc, 2, none⟩ = some (.float .f32 H) ∧ W.cell? ⟨bc, 3, none⟩ = some (.slice A n c) ∧ W.cell? ⟨bi, 0, none⟩ = some (.int .i64 i) ∧ W.cell? ⟨bj, 0, none⟩ = some (.int .i64 j) ∧ W.cell? ⟨bk, 0, none⟩ = some (.int .i64 k) ∧ W.cell? ⟨bm, 0, none⟩ = some (.int .i64 mi) ∧ W.cell? ⟨bx, 0, none⟩ = some (.float .f32 x) ∧ S W) → Calls Try.prog 19 #[cub s L H A n c, .int .i64 q, .int .i64 J, .int .i64 K] W fun e w' => e = .returned (arr fun m => cl (F (eIx s q J K + m))) ∧ Below W.heap.size W w') :=
    hid fun q hq W hS => entryOf_any s L H n c q J K A F W hC hq hj hk (hF.below ((HS.out _).1 hS.2.2.2.2.2.2.2.2.2))
  have g1 := run_index_arr (fun m => cl (F (eIx s i J K + m))) mi hm
  have g2 := run_index_arr (fun m => cl (F (eIx s I J K + m))) mi hm
  have k1 : (0 : Int) ≤ (mi : Int) := by omega
  have k2 : (mi : Int) < 3 := by omega
  have H0 := hid hS0
  clear hS0 c0 c1 c2 c3 ci cj ck cm cx hF hC hJ hK hI hj hk hs
  go_enter Try.func77, Try.ntmps77
  go_upto_region 1 with fail
  go_region_held3 (fun W => W.cell? ⟨bc, 0, none⟩ = some (.int .i64 s) ∧ W.cell? ⟨bc, 1, none⟩ = some (.float .f32 L) ∧ W.cell? ⟨bc, 2, none⟩ = some (.float .f32 H) ∧ W.cell? ⟨bc, 3, none⟩ = some (.slice A n c) ∧ W.cell? ⟨bi, 0, none⟩ = some (.int .i64 i) ∧ W.cell? ⟨bj, 0, none⟩ = some (.int .i64 j) ∧ W.cell? ⟨bk, 0, none⟩ = some (.int .i64 k) ∧ W.cell? ⟨bm, 0, none⟩ = some (.int .i64 mi) ∧ W.cell? ⟨bx, 0, none⟩ = some (.float .f32 x) ∧ S W)
    (first | exact H0.out | assumption | exact HK.out _ _ (by assumption) (by assumption) | exact HK.out _ _ (by assumption) (below_drewN (Below.refl _ _) _))
    (first | (go_at_call 19; refine (HE.out _ (by assumption) _ (by assumption)).mono ?_; rintro e w' ⟨rfl, hb⟩) | (go_at_call 48; refine (lerpr_any _ _ _ _).mono ?_; rintro e w' ⟨rfl, nn, rfl⟩))
  all_goals
    go_wp2_with fail
    go_ret
    refine ⟨rfl, (HS.out _).1 ?_⟩
    go_split_ands
    assumption

end Go.Proofs.Ythnbfllhmjpbjaa
