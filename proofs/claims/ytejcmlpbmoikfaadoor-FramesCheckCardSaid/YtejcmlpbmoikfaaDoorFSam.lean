/-
  Same, in the program and in the reference, of frames of any regions.
-/
import Derived.Test.YtejcmlpbmoikfaaDoorFSameB
import Derived.Deep.QuietTactic
import Derived.BigQuiet
namespace Go.Proofs.YtejcmlpbmoikfaaDoor
open Go.RowKit Go.Shelf

set_option maxRecDepth 100000 in
set_option maxHeartbeats 1000000 in
theorem same_no0 (X Y p q X' Y' p' q' : Int) (n c n' c' : Nat) (A B : Option Addr) (w : World) (hq : (X == X') = false) :
    Calls Tryd.prog 15 #[frm X Y p q A n c, frm X' Y' p' q' B n' c'] w fun e w' => e = .returned (.bool false) ∧ Below w.heap.size w w' := by
  go_enter Tryd.func15, Tryd.ntmps15
  go_wp2_with fail
  go_ret
  exact ⟨rfl, ((Below.refl _ _).alloc (Nat.le_refl _) _).alloc (by simp) _⟩

set_option maxRecDepth 100000 in
set_option maxHeartbeats 1000000 in
theorem same_no1 (X Y p q Y' p' q' : Int) (n c n' c' : Nat) (A B : Option Addr) (w : World) (hq : (Y == Y') = false) :
    Calls Tryd.prog 15 #[frm X Y p q A n c, frm X Y' p' q' B n' c'] w fun e w' => e = .returned (.bool false) ∧ Below w.heap.size w w' := by
  go_enter Tryd.func15, Tryd.ntmps15
  go_wp2_with fail
  go_ret
  exact ⟨rfl, ((Below.refl _ _).alloc (Nat.le_refl _) _).alloc (by simp) _⟩

set_option maxRecDepth 100000 in
set_option maxHeartbeats 1000000 in
theorem same_no2 (X Y p q p' q' : Int) (n c n' c' : Nat) (A B : Option Addr) (w : World) (hq : (p == p') = false) :
    Calls Tryd.prog 15 #[frm X Y p q A n c, frm X Y p' q' B n' c'] w fun e w' => e = .returned (.bool false) ∧ Below w.heap.size w w' := by
  go_enter Tryd.func15, Tryd.ntmps15
  go_wp2_with fail
  go_ret
  exact ⟨rfl, ((Below.refl _ _).alloc (Nat.le_refl _) _).alloc (by simp) _⟩

set_option maxRecDepth 100000 in
set_option maxHeartbeats 1000000 in
theorem same_no3 (X Y p q q' : Int) (n c n' c' : Nat) (A B : Option Addr) (w : World) (hq : (q == q') = false) :
    Calls Tryd.prog 15 #[frm X Y p q A n c, frm X Y p q' B n' c'] w fun e w' => e = .returned (.bool false) ∧ Below w.heap.size w w' := by
  go_enter Tryd.func15, Tryd.ntmps15
  go_wp2_with fail
  go_ret
  exact ⟨rfl, ((Below.refl _ _).alloc (Nat.le_refl _) _).alloc (by simp) _⟩

set_option maxRecDepth 100000 in
set_option maxHeartbeats 1000000 in
theorem same_yes (X Y p q : Int) (n c c2 k : Nat) (A B : Option Addr) (F G : Nat → Nat) (w : World) (hn : n ≤ 65536) (hF : Src w A n F) (hG : Src w B n G) (hk : k ≤ n) (h1 : ∀ i, i < k → cl (F i) = cl (G i)) (h2 : k < n → cl (F k) ≠ cl (G k)) :
    Calls Tryd.prog 15 #[frm X Y p q A n c, frm X Y p q B n c2] w fun e w' => e = .returned (.bool (decide (k = n))) ∧ Below w.heap.size w w' := by
  have HE : RowKit.Hid (∀ w1, Below w.heap.size w w1 → Calls Tryd.prog 35 #[.slice A n c, .slice B n c2, .func (.func 36) #[] #[]] w1 fun e w' => e = .returned (.bool (decide (k = n))) ∧ w1 = w') := hid fun w1 hb =>
    equalSame_any n c c2 k A B F G w1 hn (hF.below hb) (hG.below hb) hk h1 h2
  have hmf : ∀ (fn : Fn) (first cap : Array Value) (w : World), (Instr.makeFunc fn first cap).run Tryd.prog w = .ok (.func fn first cap) w := fun _ _ _ _ => rfl
  have HB : RowKit.Hid (Below w.heap.size w ((w.alloc (.cells #[.int .i64 X, .int .i64 Y, .int .i64 p, .int .i64 q, .slice A n c] 26)).alloc (.cells #[.int .i64 X, .int .i64 Y, .int .i64 p, .int .i64 q, .slice B n c2] 26))) := ((Below.refl _ _).alloc (Nat.le_refl _) _).alloc (by simp) _
  clear hF hG h1 h2
  go_enter Tryd.func15, Tryd.ntmps15
  go_wp2_with fail
  refine (HE.out _ HB.out).mono ?_
  rintro e w1 ⟨rfl, rfl⟩
  go_wp2_with fail
  go_ret
  exact ⟨rfl, HB.out⟩

end Go.Proofs.YtejcmlpbmoikfaaDoor
