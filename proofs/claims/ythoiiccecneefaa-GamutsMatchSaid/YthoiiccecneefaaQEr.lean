/-
  The reference's each over any function value (as XQSqr has it; under a name of its own, for prune.py goes by names).
-/
import Derived.Test.YthoiiccecneefaaQSqr
import Derived.Deep.RegionHeld3
namespace Go.Proofs.Ythoiiccecneefaa
open Go.RowKit Go.Shelf
attribute [local go_sem] run_store_float

set_option maxRecDepth 100000 in
set_option maxHeartbeats 16000000 in
theorem eachx_any (K : FuncId) (caps : Array Value) (eK : ∀ (args : Array Value) (w : World), (callFunc K args).run Try.prog w = .ok (.enter K args) w) (f g : Nat → Nat) (w : World)
    (hG : ∀ (k : Nat) (w1 : World), k < 3 → Below w.heap.size w w1 → Calls Try.prog K (#[.float .f32 (f k)] ++ caps) w1 fun e w2 => e = .returned (.float .f32 (g k)) ∧ Below w1.heap.size w1 w2) :
    Calls Try.prog 89 #[pix f, .func (.func K) #[] caps] w fun e w' => e = .returned (pix (col f g)) ∧ Below w.heap.size w w' := by
  have HK : RowKit.Hid (EK f w ((w.alloc (.cells (pixA f) 47)).alloc (.cells zpix4 47)).drew) := (EK.below ⟨(Blk.new_at _ _ _ rfl).alloc _, ⟨_, _, _, _, Blk.new_at _ _ _ (by simp)⟩, ((Below.refl _ _).alloc (Nat.le_refl _) _).alloc (by simp) _⟩ (Below.refl _ _).drew)
  have H0 := hid fun w1 (h : EKC f w w1) => hG 0 w1 (by omega) h.2.2.2.2.be
  have H1 := hid fun w1 (h : EKC f w w1) => hG 1 w1 (by omega) h.2.2.2.2.be
  have H2 := hid fun w1 (h : EKC f w w1) => hG 2 w1 (by omega) h.2.2.2.2.be
  clear hG
  rw [pix_cells f]
  go_enter Try.func89, Try.ntmps89
  go_wp2_with fail
  go_region_held3 (fun w' => w'.cell? ⟨w.heap.size, 0, none⟩ = some (.float .f32 (f 0)) ∧ w'.cell? ⟨w.heap.size, 1, none⟩ = some (.float .f32 (f 1)) ∧ w'.cell? ⟨w.heap.size, 2, none⟩ = some (.float .f32 (f 2)) ∧ w'.cell? ⟨w.heap.size, 3, none⟩ = some (.float .f32 (f 3)) ∧ EK f w w') (first | (with_reducible exact HK.out.held) | (with_reducible exact EKC.on (by assumption) (by assumption)) | (with_reducible exact EKC.alloc (by assumption) _) | (with_reducible exact EKC.set4 (by assumption) _ _ _ _) | (with_reducible assumption))
    (first
      | (go_at_call 42; refine (fix_any _ _).mono ?_; rintro e w1 ⟨rfl, rfl⟩; obtain ⟨d0, d1, d2, d3, hbk⟩ := (show EKC f w _ from by first | assumption | (go_split_ands; assumption)).2.2.2.2.b1; have s0 := hbk.cell 0; have s1 := hbk.cell 1; have s2 := hbk.cell 2; have s3 := hbk.cell 3; have fz := fun i => hbk.frozen i; simp at s0 s1 s2 s3; have HBK := hid hbk; clear hbk)
      | (with_reducible refine (H0.out _ (by assumption)).mono ?_; rintro e w1 ⟨rfl, hb⟩; obtain ⟨d0, d1, d2, d3, hbk⟩ := (EKC.on hb (by first | assumption | (go_split_ands; assumption))).2.2.2.2.b1; have s0 := hbk.cell 0; have s1 := hbk.cell 1; have s2 := hbk.cell 2; have s3 := hbk.cell 3; have fz := fun i => hbk.frozen i; simp at s0 s1 s2 s3; have HBK := hid hbk; clear hbk)
      | (with_reducible refine (H1.out _ (by assumption)).mono ?_; rintro e w1 ⟨rfl, hb⟩; obtain ⟨d0, d1, d2, d3, hbk⟩ := (EKC.on hb (by first | assumption | (go_split_ands; assumption))).2.2.2.2.b1; have s0 := hbk.cell 0; have s1 := hbk.cell 1; have s2 := hbk.cell 2; have s3 := hbk.cell 3; have fz := fun i => hbk.frozen i; simp at s0 s1 s2 s3; have HBK := hid hbk; clear hbk)
      | (with_reducible refine (H2.out _ (by assumption)).mono ?_; rintro e w1 ⟨rfl, hb⟩; obtain ⟨d0, d1, d2, d3, hbk⟩ := (EKC.on hb (by first | assumption | (go_split_ands; assumption))).2.2.2.2.b1; have s0 := hbk.cell 0; have s1 := hbk.cell 1; have s2 := hbk.cell 2; have s3 := hbk.cell 3; have fz := fun i => hbk.frozen i; simp at s0 s1 s2 s3; have HBK := hid hbk; clear hbk))
  all_goals
    rename_i hH
    have HB := hid hH.2.2.2.2.be
    have HR := hid (HBK.out.set4 (.float .f32 (g 0)) (.float .f32 (g 1)) (.float .f32 (g 2)) (.float .f32 (cl (f 3))))
    clear hH
    go_wp2_with fail
    exact bodyPost_ret (v := pix (col f g)) (results_cell_row rfl _ _ _ _ _ _ _ rfl HR.out Try.underlying47 rfl (by kernel_rfl)) rfl ⟨rfl, HB.out⟩
end Go.Proofs.Ythoiiccecneefaa
