/-
  Colours: the law on luma, saturation and hues, where a sum draws.
-/
import Derived.Test.YtcmakibomdinbaaCHueLaw
namespace Go.Proofs.Ytcmakibomdinbaa
open Go.RowKit
attribute [local go_sem] run_store_float

set_option maxRecDepth 100000 in
set_option maxHeartbeats 6000000 in
theorem hueLaw_b (f g : Nat → Nat) (h s v b : Nat) (w : World) : Calls Try.prog 9 #[pix f, tri g, .float .f32 h, .float .f32 s, .float .f32 v, .float .f32 b] w fun e w' => e = .returned (.bool true) ∧ Below w.heap.size w w' := by
  rw [pix_cells, tri_cells]
  go_enter Try.func9, Try.ntmps9
  go_wp2_with fail
  refine (hsvp2 f _).mono ?_
  rintro e w1 ⟨rfl, hb1⟩
  have h1 : HK w f g w1 := ⟨Blk.below ((Blk.new_at _ _ _ rfl).alloc _) hb1 (by simp; omega), Blk.below (Blk.new_at _ _ _ (by simp)) hb1 (by simp), Below.trans (by repeat (first | exact Below.refl _ _ | refine Below.alloc ?_ (by first | (simp; done) | (simp; omega)) _)) (hb1.mono (by simp; omega))⟩
  have H1 := hid h1
  obtain ⟨x0, x1, x2, x3, -⟩ := h1.held
  clear h1 hb1
  go_wp2_with fail
  refine (hsvr2 f _).mono ?_
  rintro e w2 ⟨rfl, hb2⟩
  have h2 := H1.out.below hb2
  have H2 := hid h2
  clear h2 hb2 x0 x1 x2 x3
  go_wp2_with fail
  go_region_held3 (fun w' => w'.cell? ⟨w.heap.size, 0, none⟩ = some (.float .f32 (f 0)) ∧ w'.cell? ⟨w.heap.size, 1, none⟩ = some (.float .f32 (f 1)) ∧ w'.cell? ⟨w.heap.size, 2, none⟩ = some (.float .f32 (f 2)) ∧ w'.cell? ⟨w.heap.size, 3, none⟩ = some (.float .f32 (f 3)) ∧
      w'.cell? ⟨w.heap.size + 1, 0, none⟩ = some (.float .f32 (g 0)) ∧ w'.cell? ⟨w.heap.size + 1, 1, none⟩ = some (.float .f32 (g 1)) ∧ w'.cell? ⟨w.heap.size + 1, 2, none⟩ = some (.float .f32 (g 2)) ∧ HK w f g w')
    (first | exact H2.out.drew.held | exact HCel.on (by assumption) (by assumption) | assumption)
    (first
      | (go_at_call 23; refine (colours_any _).mono ?_; rintro e w3 ⟨rfl, hb⟩)
      | (go_at_call 43; refine (same_yes _ _ rfl _).mono ?_; rintro e w3 ⟨rfl, rfl⟩)
      | (go_at_call 20; refine (from_any _ _ _ _ _).mono ?_; rintro e w3 ⟨rfl, hb⟩)
      | (go_at_call 52; refine (fromr_any _ _ _ _ _).mono ?_; rintro e w3 ⟨rfl, hb⟩)
      | (go_at_call 27; refine (samePix_any (fromC h s v (f 3)) (fromC h s v (f 3)) (fun _ _ => rfl) _).mono ?_; rintro e w3 ⟨rfl, hb⟩))
  all_goals
    rename_i hH
    have H3 := hid hH.2.2.2.2.2.2.2
    clear hH
    go_wp2_with fail
    rw [show Op.binOp BinOp.add 22 (Operand.tmp 78) (Operand.tmp 79) 22 = adOp 22 (Operand.tmp 78) (Operand.tmp 79) from rfl]
    go_region_held3 (fun w' => w'.cell? ⟨w.heap.size, 0, none⟩ = some (.float .f32 (f 0)) ∧ w'.cell? ⟨w.heap.size, 1, none⟩ = some (.float .f32 (f 1)) ∧ w'.cell? ⟨w.heap.size, 2, none⟩ = some (.float .f32 (f 2)) ∧ w'.cell? ⟨w.heap.size, 3, none⟩ = some (.float .f32 (f 3)) ∧
        w'.cell? ⟨w.heap.size + 1, 0, none⟩ = some (.float .f32 (g 0)) ∧ w'.cell? ⟨w.heap.size + 1, 1, none⟩ = some (.float .f32 (g 1)) ∧ w'.cell? ⟨w.heap.size + 1, 2, none⟩ = some (.float .f32 (g 2)) ∧ HK w f g w')
      (first | exact H3.out.drew.held | exact HCel.on (by assumption) (by assumption) | exact HCel.drewN (by assumption) _ | assumption)
      (first
        | (go_at_call 53; refine (apartp_any _ _ _).mono ?_; rintro e w4 ⟨rfl, hb⟩)
        | (go_at_call 54; refine (apartr_any _ _ _).mono ?_; rintro e w4 ⟨rfl, hb⟩)
        | (go_at_call 43; refine (same_yes _ _ rfl _).mono ?_; rintro e w4 ⟨rfl, rfl⟩)
        | (go_at_call 55; refine (turn_any f b _).mono ?_; rintro e w4 ⟨rfl, hb⟩)
        | (go_at_call 52; refine (fromr_any _ _ _ _ _).mono ?_; rintro e w4 ⟨rfl, hb⟩)
        | (go_at_call 56; refine (lumap_any g f _).mono ?_; rintro e w4 ⟨rfl, hb⟩)
        | (go_at_call 57; refine (lumar_any g f _).mono ?_; rintro e w4 ⟨rfl, hb⟩)
        | (go_at_call 58; refine (satup_any g f b _).mono ?_; rintro e w4 ⟨rfl, hb⟩)
        | (go_at_call 59; refine (satur_any g f b _).mono ?_; rintro e w4 ⟨rfl, hb⟩)
        | (go_at_call 27; refine (samePix_any _ _ (by intro k _; first | with_reducible rfl | exact turn_raw f b _ k) _).mono ?_; rintro e w4 ⟨rfl, hb⟩))
    all_goals
      rename_i hH
      have H4 := hid hH.2.2.2.2.2.2.2
      clear hH
      go_wp2_with fail
      go_ret
      exact ⟨rfl, H4.out.be⟩
theorem hueLaw_any (f g : Nat → Nat) (h s v b : Nat) (w : World) : Calls Try.prog 9 #[pix f, tri g, .float .f32 h, .float .f32 s, .float .f32 v, .float .f32 b] w fun e w' => e = .returned (.bool true) ∧ Below w.heap.size w w' := by
  by_cases hN : isN .f32 (cop .add .f32 (hsvH f) b) = true
  · exact hueLaw_b f g h s v b w
  · exact hueLaw_a f g h s v b w (by simpa using hN)
end Go.Proofs.Ytcmakibomdinbaa
