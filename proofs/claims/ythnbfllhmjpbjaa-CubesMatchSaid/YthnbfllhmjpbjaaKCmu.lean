/-
  Cubes: CubesMatch holds.
-/
import Derived.Test.YthnbfllhmjpbjaaKCmt
namespace Go.Proofs.Ythnbfllhmjpbjaa
open Go.RowKit Go.Shelf

theorem cm_any (S i j k : Int) (L H n c : Nat) (A : Option Addr) (F p : Nat → Nat) (w : World) (hnc : n ≤ c) (hF : Src w A n F) :
    Calls Try.prog 3 #[cub S L H A n c, .int .i64 i, .int .i64 j, .int .i64 k, pix p] w fun e w' => e = .returned (.bool true) ∧ Below w.heap.size w w' := by
  cases hz : cubE S L H n != 0
  · have hC : CubOk S L H n := cubE_zero (by simpa using hz)
    have h0 := hC.s1
    obtain ⟨s, rfl⟩ := Int.eq_ofNat_of_zero_le (show 0 ≤ S by omega)
    have hN : ((spN s L H p 0 : Nat) : Int) = plN s L H (p 0) := by
      have := pl_wf (L := L) (H := H) (p 0) hC.s1 hC.s2
      unfold spN; omega
    have hP : ∀ W, Calls Try.prog 14 #[cub s L H A n c, .float .f32 (p 0)] W (PlS (spN s L H p 0 : Nat) (spX s L H p 0) W) := fun W => by
      rw [hN]; exact place_any s L H (p 0) A n c W hC
    cases hin : (inB i 0 ((s : Int) - 1) && inB j 0 ((s : Int) - 1) && inB k 0 ((s : Int) - 1))
    · have hP2 : ¬ onP s i j k := by
        intro h
        have a := h 0 (by omega)
        have b := h 1 (by omega)
        have d := h 2 (by omega)
        simp [co] at a b d
        have : (inB i 0 ((s : Int) - 1) && inB j 0 ((s : Int) - 1) && inB k 0 ((s : Int) - 1)) = true := by
          rw [Bool.and_eq_true, Bool.and_eq_true, inB_true, inB_true, inB_true]
          omega
        rw [hin] at this; cases this
      refine cm_core s i j k L H n c A p (fun _ => 0) (tetP s L H F p) (linP s L H F p) 5 0 0 (spN s L H p 0 : Nat) (spX s L H p 0) w
        (fun W _ => entryP_far s L H n c i j k A W hC hP2) (fun W hb => tetraT_any s L H n c A F p W hC hnc (hF.below hb)) (fun W hb => linearL_any s L H n c A F p W hC hnc (hF.below hb)) hP
        (fun h => by rw [hz] at h; cases h) (fun _ => ⟨hC.s1, hC.s2, rfl, rfl, (fun h => by rw [hin] at h; cases h), fun _ => ⟨rfl, rfl⟩, fun W => onAxis_k s L H n c 0 A p W hC, fun W hb => tetOf_any s L H n c A F p W hC (hF.below hb), fun W hb => linOf_any s L H n c A F p W hC (hF.below hb)⟩)
    · have hh := hin
      rw [Bool.and_eq_true, Bool.and_eq_true, inB_true, inB_true, inB_true] at hh
      obtain ⟨⟨⟨i0, i1⟩, j0, j1⟩, k0, k1⟩ := hh
      obtain ⟨i, rfl⟩ := Int.eq_ofNat_of_zero_le i0
      obtain ⟨j, rfl⟩ := Int.eq_ofNat_of_zero_le j0
      obtain ⟨k, rfl⟩ := Int.eq_ofNat_of_zero_le k0
      refine cm_core s i j k L H n c A p (fun m => cl (F (eIx s i j k + m))) (tetP s L H F p) (linP s L H F p) 0 0 0 (spN s L H p 0 : Nat) (spX s L H p 0) w
        (fun W hb => entryP_ok s L H n c i j k A F W hC (by omega) (by omega) (by omega) hnc (hF.below hb)) (fun W hb => tetraT_any s L H n c A F p W hC hnc (hF.below hb)) (fun W hb => linearL_any s L H n c A F p W hC hnc (hF.below hb)) hP
        (fun h => by rw [hz] at h; cases h) (fun _ => ⟨hC.s1, hC.s2, rfl, rfl, fun _ => ⟨rfl, fun W hb => entryOf_any s L H n c i j k A F W hC (by omega) (by omega) (by omega) (hF.below hb)⟩, (fun h => by rw [hin] at h; cases h), fun W => onAxis_k s L H n c 0 A p W hC, fun W hb => tetOf_any s L H n c A F p W hC (hF.below hb), fun W hb => linOf_any s L H n c A F p W hC (hF.below hb)⟩)
  · exact cm_core S i j k L H n c A p (fun _ => 0) (fun _ => 0) (fun _ => 0) (cubE S L H n) (cubE S L H n) (cubE S L H n) 0 0 w
      (fun W _ => entryP_bad S i j k L H A n c W hz) (fun W _ => tetra_bad S L H n c A p W hz) (fun W _ => linear_bad S L H n c A p W hz) (fun W => place_bad S L H (p 0) A n c W hz)
      (fun _ => ⟨rfl, rfl, rfl, rfl, rfl, rfl, rfl, rfl⟩) (fun h => by rw [hz] at h; cases h)
end Go.Proofs.Ythnbfllhmjpbjaa
