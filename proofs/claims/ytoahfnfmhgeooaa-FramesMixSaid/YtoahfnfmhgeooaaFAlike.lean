/-
  alike: two results that are the same.
-/
import Derived.Test.YtoahfnfmhgeooaaFSame
namespace Go.Proofs.Ytoahfnfmhgeooaa
open Go.RowKit

set_option maxRecDepth 100000 in
set_option maxHeartbeats 2000000 in
theorem alike_any (E X Y p q X' Y' p' q' : Int) (n c n' c2 : Nat) (A B : Option Addr) (F G : Nat → Nat) (w : World) (hn : n ≤ 65536) (h0 : E = 0 → X' = X ∧ Y' = Y ∧ p' = p ∧ q' = q ∧ n' = n ∧ Src w A n F ∧ Src w B n G ∧ ∀ i, i < n → F i = G i) (h1 : E ≠ 0 → X = 0 ∧ Y = 0 ∧ p = 0 ∧ q = 0 ∧ n = 0) :
    Calls Try.prog 43 #[frm X Y p q A n c, .int .i64 E, frm X' Y' p' q' B n' c2, .int .i64 E] w fun e w' => e = .returned (.bool true) ∧ Below w.heap.size w w' := by
  by_cases hE : E = 0
  · obtain ⟨rfl, rfl, rfl, rfl, rfl, hF, hG, hFG⟩ := h0 hE
    have zE : (E != 0) = false := by simp [hE]
    have HS : RowKit.Hid (∀ w1, Below w.heap.size w w1 → Calls Try.prog 26 #[frm X' Y' p' q' A n' c, frm X' Y' p' q' B n' c2] w1 fun e w' => e = .returned (.bool true) ∧ Below w1.heap.size w1 w') :=
      hid fun w1 h => sameFrame_any X' Y' p' q' n' c c2 A B F G w1 hn (hF.below h) (hG.below h) hFG
    clear h0 h1 hE hF hG hFG
    go_enter Try.func43, Try.ntmps43
    go_wp2_with fail
    refine (HS.out _ (((Below.refl _ _).alloc (Nat.le_refl _) _).alloc (by simp) _)).mono ?_
    rintro e w1 ⟨rfl, hb⟩
    have HB : RowKit.Hid (Below w.heap.size w w1) := below_to (((Below.refl _ _).alloc (Nat.le_refl _) _).alloc (by simp) _) hb
    clear hb
    go_wp2_with fail
    go_ret
    exact ⟨rfl, HB.out⟩
  · obtain ⟨rfl, rfl, rfl, rfl, rfl⟩ := h1 hE
    have zE : (E != 0) = true := by simp [hE]
    clear h0 h1 hE
    go_enter Try.func43, Try.ntmps43
    go_wp2_with fail
    go_ret
    exact ⟨rfl, ((Below.refl _ _).alloc (Nat.le_refl _) _).alloc (by simp) _⟩
end Go.Proofs.Ytoahfnfmhgeooaa
