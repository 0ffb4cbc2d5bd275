/-
  The law LevelsAsFrames, whatever it is given.
-/
import Derived.Test.YtbpnbcnhlnnolaaQLaO
namespace Go.Proofs.Ytbpnbcnhlnnolaa
open Go.RowKit Go.Shelf

theorem levelsAsFrames_any (x y a b d : Int) (A : Option Addr) (n c : Nat) (L : Nat → Int) (w : World) (hnc : n ≤ c) (hL : SrcI w A n L) :
    Calls Try.prog 12 #[reg x y a b, .slice A n c, .int .i64 d] w fun e w' => e = .returned (.bool true) ∧ Below w.heap.size w w' := by
  by_cases h : regE x y a b = 0
  · by_cases hd : 1 ≤ d ∧ d ≤ 16
    · by_cases hn : (n : Int) = 4 * a * b
      · obtain ⟨a1, _, b1, _, _⟩ := regE_zero h
        obtain ⟨p, rfl⟩ : ∃ p : Nat, a = p := ⟨a.toNat, by omega⟩
        obtain ⟨q, rfl⟩ : ∃ q : Nat, b = q := ⟨b.toNat, by omega⟩
        have hn0 : 0 < n := by
          obtain ⟨a1, a2, b1, b2, ab, x1, x2, y1, y2⟩ := regE_zero h
          obtain ⟨p1, p2⟩ := prod_le a1 a2 b1 b2
          obtain ⟨q1, q2⟩ := prod4_le p1 ab
          omega
        obtain ⟨g, off, rfl, hg, hr⟩ := hL hn0
        exact laf_ok x y p q d g off n c L w h hd hn hnc hg hr
      · exact laf_form x y a b d A n c w h hd hn
    · exact laf_depth x y a b d A n c w h hd
  · exact laf_region x y a b d A n c w h
end Go.Proofs.Ytbpnbcnhlnnolaa
