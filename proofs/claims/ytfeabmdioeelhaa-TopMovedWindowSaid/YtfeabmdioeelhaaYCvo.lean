/-
  Windows: coverOf of the program.
-/
import Derived.Test.YtfeabmdioeelhaaYCvr
namespace Go.Proofs.Ytfeabmdioeelhaa
open Go.RowKit Go.Shelf
attribute [local go_sem] run_store_float
theorem run_store_func (P : Program) (w : World) (a : Addr) (m : Mode) (fn : Fn) (first cap : Array Value) : (store a (.func fn first cap) m).run P w = stored P w a (.func fn first cap) m := run_store P w a _ m rfl
attribute [local go_sem] run_store_func

/-- A function value that gives C at places. -/
def CovP (w : World) (C : Int → Int → Nat) (e : Ending) (w' : World) : Prop :=
  ∃ F caps, e = .returned (.func (.func F) #[] caps) ∧ (∀ (args : Array Value) (w : World), (callFunc F args).run Try.prog w = .ok (.enter F args) w) ∧ Covs w' F caps C ∧ Below w.heap.size w w'

theorem Covs.to {w : World} {F : FuncId} {caps : Array Value} {C D : Int → Int → Nat} (h : Covs w F caps C) (e : C = D) : Covs w F caps D := e ▸ h
theorem Covs.below {w w' : World} {F : FuncId} {caps : Array Value} {C : Int → Int → Nat} (h : Covs w F caps C) (hb : Below w.heap.size w w') : Covs w' F caps C :=
  fun x y w1 a b c d hw => h x y w1 a b c d (below_to hb hw)

section
variable {K : Int} {X Y W H S : Nat} {A : Option Addr} {n c : Nat} {o : Bool} {P Q : Nat → Int} {g : Nat} {w : World}
theorem covs1 (hK : K = 1) (hok : WinOk K X Y W H S n P Q) (hB : Blk w g 25 (winA K X Y W H S A n c o)) : Covs w 166 #[.pointer (some ⟨g, 0, none⟩)] (cov0 K X Y W H S n P Q) := by
  intro x y w1 x1 x2 y1 y2 hb
  have e : cov0 K X Y W H S n P Q x y = beyC (boxC (cop .sub .f32 (floatOfInt .f32 x) X) (cop .sub .f32 (floatOfInt .f32 y) Y) W H) S := by unfold cov0; rw [if_pos hK]
  rw [e]
  exact c1_any K X Y W H S A n c o P Q g x y w1 hok (hB.below hb hB.lt) x1 x2 y1 y2
theorem covs2 (hK : K = 2) (hok : WinOk K X Y W H S n P Q) (hB : Blk w g 25 (winA K X Y W H S A n c o)) : Covs w 168 #[.pointer (some ⟨g, 0, none⟩)] (cov0 K X Y W H S n P Q) := by
  intro x y w1 _ _ _ _ hb
  have e : cov0 K X Y W H S n P Q x y = beyC (ellC (cop .sub .f32 (floatOfInt .f32 x) X) (cop .sub .f32 (floatOfInt .f32 y) Y) W H ((FloatKind.f32.format.order W H).getD .eq)) S := by unfold cov0; rw [if_neg (by omega), if_pos hK]
  rw [e]
  exact c2_any K X Y W H S A n c o P Q g x y w1 hok (hB.below hb hB.lt)
theorem covs3 (hK : K = 3) (hok : WinOk K X Y W H S n P Q) (hP : Pts w A n P Q) (hB : Blk w g 25 (winA K X Y W H S A n c o)) : Covs w 170 #[.pointer (some ⟨g, 0, none⟩)] (cov0 K X Y W H S n P Q) := by
  intro x y w1 x1 x2 y1 y2 hb
  have e : cov0 K X Y W H S n P Q x y = b2f (parB P Q n x y n) := by unfold cov0; rw [if_neg (by omega), if_neg (by omega)]
  rw [e]
  exact c3_any K X Y W H S A n c o P Q g x y w1 hok (by have := hok.n3 hK; omega) (hP.below hb) (hB.below hb hB.lt) x1 x2 y1 y2
theorem covs4 {F : FuncId} {caps : Array Value} (eF : ∀ (args : Array Value) (w : World), (callFunc F args).run Try.prog w = .ok (.enter F args) w) (C : Int → Int → Nat) (hB : Blk w g 102 #[.func (.func F) #[] caps]) (hC : Covs w F caps C) :
    Covs w 172 #[.pointer (some ⟨g, 0, none⟩)] (fun x y => cop .sub .f32 1065353216 (C x y)) := by
  intro x y w1 x1 x2 y1 y2 hb
  exact c4_any F caps eF (C x y) g x y w1 (hB.below hb hB.lt) (hC x y w1 x1 x2 y1 y2 hb)
end

set_option maxRecDepth 100000 in
set_option maxHeartbeats 1000000 in
theorem coverOf_any (K : Int) (X Y W H S : Nat) (A : Option Addr) (n c : Nat) (o : Bool) (P Q : Nat → Int) (w : World) (hok : WinOk K X Y W H S n P Q) (hP : Pts w A n P Q) :
    Calls Try.prog 71 #[win K X Y W H S A n c o] w (CovP w (covC o K X Y W H S n P Q)) := by
  have hmf : ∀ (fn : Fn) (first cap : Array Value) (w : World), (Instr.makeFunc fn first cap).run Try.prog w = .ok (.func fn first cap) w := fun _ _ _ _ => rfl
  have k1 := hok.k1
  have k3 := hok.k3
  have HOK := hid hok
  have HP := hid hP
  clear hok hP
  have hk : K = 1 ∨ K = 2 ∨ K = 3 := by omega
  clear k1 k3
  have hbe : ∀ (F : FuncId) (caps : Array Value), Below w.heap.size w ((w.alloc (.cells (winA K X Y W H S A n c o) 25)).alloc (.cells #[.func (.func F) #[] caps] 102)) := fun F caps => ((Below.refl _ _).alloc (Nat.le_refl _) _).alloc (by simp) _
  have hB1 : ∀ (F : FuncId) (caps : Array Value), Blk ((w.alloc (.cells (winA K X Y W H S A n c o) 25)).alloc (.cells #[.func (.func F) #[] caps] 102)) w.heap.size 25 (winA K X Y W H S A n c o) := fun F caps => (Blk.new_at w 25 (winA K X Y W H S A n c o) rfl).alloc _
  have hB2 : ∀ (F : FuncId) (caps : Array Value), Blk ((w.alloc (.cells (winA K X Y W H S A n c o) 25)).alloc (.cells #[.func (.func F) #[] caps] 102)) (w.heap.size + 1) 102 #[.func (.func F) #[] caps] := fun F caps => Blk.new_at _ _ _ (by simp)
  have HBE := hid hbe
  have HB1 := hid hB1
  have HB2 := hid hB2
  clear hbe hB1 hB2
  cases o
  · rcases hk with rfl | rfl | rfl
    · go_enter Try.func71, Try.ntmps71
      go_wp2
      go_ret
      exact ⟨_, _, rfl, enters_c1, covs1 rfl HOK.out (HB1.out _ _), HBE.out _ _⟩
    · go_enter Try.func71, Try.ntmps71
      go_wp2
      go_ret
      exact ⟨_, _, rfl, enters_c2, covs2 rfl HOK.out (HB1.out _ _), HBE.out _ _⟩
    · go_enter Try.func71, Try.ntmps71
      go_wp2
      go_ret
      exact ⟨_, _, rfl, enters_c3, covs3 rfl HOK.out (HP.out.below (HBE.out _ _)) (HB1.out _ _), HBE.out _ _⟩
  · rcases hk with rfl | rfl | rfl
    · go_enter Try.func71, Try.ntmps71
      go_wp2
      go_ret
      exact ⟨_, _, rfl, enters_c4, covs4 enters_c1 _ (HB2.out _ _) (covs1 rfl HOK.out (HB1.out _ _)), HBE.out _ _⟩
    · go_enter Try.func71, Try.ntmps71
      go_wp2
      go_ret
      exact ⟨_, _, rfl, enters_c4, covs4 enters_c2 _ (HB2.out _ _) (covs2 rfl HOK.out (HB1.out _ _)), HBE.out _ _⟩
    · go_enter Try.func71, Try.ntmps71
      go_wp2
      go_ret
      exact ⟨_, _, rfl, enters_c4, covs4 enters_c3 _ (HB2.out _ _) (covs3 rfl HOK.out (HP.out.below (HBE.out _ _)) (HB1.out _ _)), HBE.out _ _⟩
end Go.Proofs.Ytfeabmdioeelhaa
