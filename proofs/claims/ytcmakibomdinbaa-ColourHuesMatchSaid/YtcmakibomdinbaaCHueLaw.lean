/-
  Colours: the law on luma, saturation and hues.
-/
import Derived.Test.YtcmakibomdinbaaCKnow
import Derived.Test.YtcmakibomdinbaaCTurn
namespace Go.Proofs.Ytcmakibomdinbaa
open Go.RowKit
attribute [local go_sem] run_store_float

abbrev triA (g : Nat → Nat) : Array Value := #[.float .f32 (g 0), .float .f32 (g 1), .float .f32 (g 2)]
/-- The two boxes stand. -/
structure HK (w : World) (f g : Nat → Nat) (wr : World) : Prop where
  p : Blk wr w.heap.size 24 (pixA f)
  t : Blk wr (w.heap.size + 1) 59 (triA g)
  be : Below w.heap.size w wr
abbrev HCel (w : World) (f g : Nat → Nat) (w' : World) : Prop := w'.cell? ⟨w.heap.size, 0, none⟩ = some (.float .f32 (f 0)) ∧ w'.cell? ⟨w.heap.size, 1, none⟩ = some (.float .f32 (f 1)) ∧ w'.cell? ⟨w.heap.size, 2, none⟩ = some (.float .f32 (f 2)) ∧ w'.cell? ⟨w.heap.size, 3, none⟩ = some (.float .f32 (f 3)) ∧
  w'.cell? ⟨w.heap.size + 1, 0, none⟩ = some (.float .f32 (g 0)) ∧ w'.cell? ⟨w.heap.size + 1, 1, none⟩ = some (.float .f32 (g 1)) ∧ w'.cell? ⟨w.heap.size + 1, 2, none⟩ = some (.float .f32 (g 2)) ∧ HK w f g w'
section
variable {w wr w1 : World} {f g : Nat → Nat}
theorem HK.held (h : HK w f g wr) : HCel w f g wr := ⟨h.p.cell 0, h.p.cell 1, h.p.cell 2, h.p.cell 3, h.t.cell 0, h.t.cell 1, h.t.cell 2, h⟩
theorem HK.below (h : HK w f g wr) (hb : Below wr.heap.size wr w1) : HK w f g w1 := ⟨h.p.below hb h.p.lt, h.t.below hb h.t.lt, below_to h.be hb⟩
theorem HCel.on (hb : Below wr.heap.size wr w1) (h : HCel w f g wr) : HCel w f g w1 := (h.2.2.2.2.2.2.2.below hb).held
theorem HCel.drewN (h : HCel w f g wr) (n : Nat) : HCel w f g (wr.drewN n) := (h.2.2.2.2.2.2.2.below (below_drewN (Below.refl _ _) n)).held
theorem HK.drew (h : HK w f g wr) : HK w f g wr.drew := h.below (below_drewN (Below.refl _ _) 1)
end

theorem turn_raw (f : Nat → Nat) (b : Nat) (w : World) (k : Nat) : turnC f b k = fromC (fop .add .f32 (hsvH f) b w) (hsvS f) (hsvV f) (f 3) k := by
  unfold turnC
  rw [← fromC_cn (fop .add .f32 (hsvH f) b w), cn_fop]

theorem cn_any (f : Nat → Nat) (b : Nat) : cop .add .f32 (cn .f32 (hsvH f)) (cn .f32 b) = cop .add .f32 (hsvH f) b := by
  unfold cop; rw [floatBits_cn]
theorem turn_cop (f : Nat → Nat) (b : Nat) (k : Nat) : turnC f b k = fromC (cop .add .f32 (hsvH f) b) (hsvS f) (hsvV f) (f 3) k := by
  unfold turnC; rw [cn_any]
/-- An addition under another name: the walk of a region branches over it without a word. -/
def adOp (t : TypeId) (x y : Operand) : Op := Op.binOp .add t x y t
@[go_sem] theorem adOp_eq (t : TypeId) (x y : Operand) : adOp t x y = Op.binOp .add t x y t := rfl

set_option maxRecDepth 100000 in
set_option maxHeartbeats 1000000 in
theorem hueLaw_a (f g : Nat → Nat) (h s v b : Nat) (w : World) (hN : isN .f32 (cop .add .f32 (hsvH f) b) = false) : Calls Try.prog 9 #[pix f, tri g, .float .f32 h, .float .f32 s, .float .f32 v, .float .f32 b] w fun e w' => e = .returned (.bool true) ∧ Below w.heap.size w w' := by
  obtain ⟨s1, s2⟩ := fop_cop hN
  clear hN
  rw [pix_cells, tri_cells]
  go_enter Try.func9, Try.ntmps9
  go_wp2_with fail
  refine (hsvp2 f _).mono ?_
  rintro e w1 ⟨rfl, hb1⟩
  have h1 : HK w f g w1 := ⟨Blk.below ((Blk.new_at _ _ _ rfl).alloc _) hb1 (by simp; omega), Blk.below (Blk.new_at _ _ _ (by simp)) hb1 (by simp), Below.trans (by repeat (first | exact Below.refl _ _ | refine Below.alloc ?_ (by first | (simp; done) | (simp; omega)) _)) (hb1.mono (by simp; omega))⟩
  have H1 := hid h1
  obtain ⟨x0, x1, x2, x3, -⟩ := h1.held
  clear h1 hb1
  go_wp2_with fail
  refine (hsvr2 f _).mono ?_
  rintro e w2 ⟨rfl, hb2⟩
  have h2 := H1.out.below hb2
  have H2 := hid h2
  clear h2 hb2 x0 x1 x2 x3
  go_wp2_with fail
  go_region_held3 (fun w' => w'.cell? ⟨w.heap.size, 0, none⟩ = some (.float .f32 (f 0)) ∧ w'.cell? ⟨w.heap.size, 1, none⟩ = some (.float .f32 (f 1)) ∧ w'.cell? ⟨w.heap.size, 2, none⟩ = some (.float .f32 (f 2)) ∧ w'.cell? ⟨w.heap.size, 3, none⟩ = some (.float .f32 (f 3)) ∧
      w'.cell? ⟨w.heap.size + 1, 0, none⟩ = some (.float .f32 (g 0)) ∧ w'.cell? ⟨w.heap.size + 1, 1, none⟩ = some (.float .f32 (g 1)) ∧ w'.cell? ⟨w.heap.size + 1, 2, none⟩ = some (.float .f32 (g 2)) ∧ HK w f g w')
    (first | exact H2.out.drew.held | exact HCel.on (by assumption) (by assumption) | assumption)
    (first
      | (go_at_call 23; refine (colours_any _).mono ?_; rintro e w3 ⟨rfl, hb⟩)
      | (go_at_call 43; refine (same_yes _ _ rfl _).mono ?_; rintro e w3 ⟨rfl, rfl⟩)
      | (go_at_call 20; refine (from_any _ _ _ _ _).mono ?_; rintro e w3 ⟨rfl, hb⟩)
      | (go_at_call 52; refine (fromr_any _ _ _ _ _).mono ?_; rintro e w3 ⟨rfl, hb⟩)
      | (go_at_call 27; refine (samePix_any (fromC h s v (f 3)) (fromC h s v (f 3)) (fun _ _ => rfl) _).mono ?_; rintro e w3 ⟨rfl, hb⟩))
  all_goals
    rename_i hH
    have H3 := hid hH.2.2.2.2.2.2.2
    clear hH
    go_wp2_with fail
    go_region_held3 (fun w' => w'.cell? ⟨w.heap.size, 0, none⟩ = some (.float .f32 (f 0)) ∧ w'.cell? ⟨w.heap.size, 1, none⟩ = some (.float .f32 (f 1)) ∧ w'.cell? ⟨w.heap.size, 2, none⟩ = some (.float .f32 (f 2)) ∧ w'.cell? ⟨w.heap.size, 3, none⟩ = some (.float .f32 (f 3)) ∧
        w'.cell? ⟨w.heap.size + 1, 0, none⟩ = some (.float .f32 (g 0)) ∧ w'.cell? ⟨w.heap.size + 1, 1, none⟩ = some (.float .f32 (g 1)) ∧ w'.cell? ⟨w.heap.size + 1, 2, none⟩ = some (.float .f32 (g 2)) ∧ HK w f g w')
      (first | exact H3.out.drew.held | exact HCel.on (by assumption) (by assumption) | exact HCel.drewN (by assumption) _ | assumption)
      (first
        | (go_at_call 53; refine (apartp_any _ _ _).mono ?_; rintro e w4 ⟨rfl, hb⟩)
        | (go_at_call 54; refine (apartr_any _ _ _).mono ?_; rintro e w4 ⟨rfl, hb⟩)
        | (go_at_call 43; refine (same_yes _ _ rfl _).mono ?_; rintro e w4 ⟨rfl, rfl⟩)
        | (go_at_call 55; refine (turn_any f b _).mono ?_; rintro e w4 ⟨rfl, hb⟩)
        | (go_at_call 52; refine (fromr_any _ _ _ _ _).mono ?_; rintro e w4 ⟨rfl, hb⟩)
        | (go_at_call 56; refine (lumap_any g f _).mono ?_; rintro e w4 ⟨rfl, hb⟩)
        | (go_at_call 57; refine (lumar_any g f _).mono ?_; rintro e w4 ⟨rfl, hb⟩)
        | (go_at_call 58; refine (satup_any g f b _).mono ?_; rintro e w4 ⟨rfl, hb⟩)
        | (go_at_call 59; refine (satur_any g f b _).mono ?_; rintro e w4 ⟨rfl, hb⟩)
        | (go_at_call 27; refine (samePix_any _ _ (by intro k _; first | with_reducible rfl | exact turn_cop f b k) _).mono ?_; rintro e w4 ⟨rfl, hb⟩))
    all_goals
      rename_i hH
      have H4 := hid hH.2.2.2.2.2.2.2
      clear hH
      go_wp2_with fail
      go_ret
      exact ⟨rfl, H4.out.be⟩
end Go.Proofs.Ytcmakibomdinbaa
