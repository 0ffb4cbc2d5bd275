/-
  Same, in the program and in the reference, of frames of any regions.
-/
import Derived.Test.YtjlghjblpbckfaaFSameB
import Derived.Deep.QuietTactic
import Derived.BigQuiet
namespace Go.Proofs.Ytjlghjblpbckfaa
open Go.RowKit Go.Shelf

theorem bit_q (a b : Nat) (w : World) : Calls Try.prog 79 #[.float .f32 a, .float .f32 b] w fun e w' => e = .returned (.bool (cl a == cl b)) ∧ w' = w :=
  (bit_any a b w).mono fun _ _ ⟨h1, h2⟩ => ⟨h1, h2.symm⟩

set_option maxRecDepth 100000 in
set_option maxHeartbeats 1000000 in
theorem same_no0 (X Y p q X' Y' p' q' : Int) (n c n' c' : Nat) (A B : Option Addr) (w : World) (hq : (X == X') = false) :
    Calls Try.prog 36 #[frm X Y p q A n c, frm X' Y' p' q' B n' c'] w fun e w' => e = .returned (.bool false) ∧ Below w.heap.size w w' := by
  go_enter Try.func36, Try.ntmps36
  go_wp2_with fail
  go_ret
  exact ⟨rfl, ((Below.refl _ _).alloc (Nat.le_refl _) _).alloc (by simp) _⟩

set_option maxRecDepth 100000 in
set_option maxHeartbeats 1000000 in
theorem same_no1 (X Y p q Y' p' q' : Int) (n c n' c' : Nat) (A B : Option Addr) (w : World) (hq : (Y == Y') = false) :
    Calls Try.prog 36 #[frm X Y p q A n c, frm X Y' p' q' B n' c'] w fun e w' => e = .returned (.bool false) ∧ Below w.heap.size w w' := by
  go_enter Try.func36, Try.ntmps36
  go_wp2_with fail
  go_ret
  exact ⟨rfl, ((Below.refl _ _).alloc (Nat.le_refl _) _).alloc (by simp) _⟩

set_option maxRecDepth 100000 in
set_option maxHeartbeats 1000000 in
theorem same_no2 (X Y p q p' q' : Int) (n c n' c' : Nat) (A B : Option Addr) (w : World) (hq : (p == p') = false) :
    Calls Try.prog 36 #[frm X Y p q A n c, frm X Y p' q' B n' c'] w fun e w' => e = .returned (.bool false) ∧ Below w.heap.size w w' := by
  go_enter Try.func36, Try.ntmps36
  go_wp2_with fail
  go_ret
  exact ⟨rfl, ((Below.refl _ _).alloc (Nat.le_refl _) _).alloc (by simp) _⟩

set_option maxRecDepth 100000 in
set_option maxHeartbeats 1000000 in
theorem same_no3 (X Y p q q' : Int) (n c n' c' : Nat) (A B : Option Addr) (w : World) (hq : (q == q') = false) :
    Calls Try.prog 36 #[frm X Y p q A n c, frm X Y p q' B n' c'] w fun e w' => e = .returned (.bool false) ∧ Below w.heap.size w w' := by
  go_enter Try.func36, Try.ntmps36
  go_wp2_with fail
  go_ret
  exact ⟨rfl, ((Below.refl _ _).alloc (Nat.le_refl _) _).alloc (by simp) _⟩

set_option maxRecDepth 100000 in
set_option maxHeartbeats 1000000 in
theorem samer_no0 (X Y p q X' Y' p' q' : Int) (n c n' c' : Nat) (A B : Option Addr) (w : World) (hq : (X == X') = false) :
    Calls Try.prog 37 #[frm X Y p q A n c, frm X' Y' p' q' B n' c'] w fun e w' => e = .returned (.bool false) ∧ Below w.heap.size w w' := by
  go_enter Try.func37, Try.ntmps37
  go_wp2_with fail
  go_ret
  exact ⟨rfl, ((Below.refl _ _).alloc (Nat.le_refl _) _).alloc (by simp) _⟩

set_option maxRecDepth 100000 in
set_option maxHeartbeats 1000000 in
theorem samer_no1 (X Y p q Y' p' q' : Int) (n c n' c' : Nat) (A B : Option Addr) (w : World) (hq : (Y == Y') = false) :
    Calls Try.prog 37 #[frm X Y p q A n c, frm X Y' p' q' B n' c'] w fun e w' => e = .returned (.bool false) ∧ Below w.heap.size w w' := by
  go_enter Try.func37, Try.ntmps37
  go_wp2_with fail
  go_ret
  exact ⟨rfl, ((Below.refl _ _).alloc (Nat.le_refl _) _).alloc (by simp) _⟩

set_option maxRecDepth 100000 in
set_option maxHeartbeats 1000000 in
theorem samer_no2 (X Y p q p' q' : Int) (n c n' c' : Nat) (A B : Option Addr) (w : World) (hq : (p == p') = false) :
    Calls Try.prog 37 #[frm X Y p q A n c, frm X Y p' q' B n' c'] w fun e w' => e = .returned (.bool false) ∧ Below w.heap.size w w' := by
  go_enter Try.func37, Try.ntmps37
  go_wp2_with fail
  go_ret
  exact ⟨rfl, ((Below.refl _ _).alloc (Nat.le_refl _) _).alloc (by simp) _⟩

set_option maxRecDepth 100000 in
set_option maxHeartbeats 1000000 in
theorem samer_no3 (X Y p q q' : Int) (n c n' c' : Nat) (A B : Option Addr) (w : World) (hq : (q == q') = false) :
    Calls Try.prog 37 #[frm X Y p q A n c, frm X Y p q' B n' c'] w fun e w' => e = .returned (.bool false) ∧ Below w.heap.size w w' := by
  go_enter Try.func37, Try.ntmps37
  go_wp2_with fail
  go_ret
  exact ⟨rfl, ((Below.refl _ _).alloc (Nat.le_refl _) _).alloc (by simp) _⟩

set_option maxRecDepth 100000 in
set_option maxHeartbeats 1000000 in
theorem same_yes (X Y p q : Int) (n c c2 k : Nat) (A B : Option Addr) (F G : Nat → Nat) (w : World) (hn : n ≤ 65536) (hF : Src w A n F) (hG : Src w B n G) (hk : k ≤ n) (h1 : ∀ i, i < k → cl (F i) = cl (G i)) (h2 : k < n → cl (F k) ≠ cl (G k)) :
    Calls Try.prog 36 #[frm X Y p q A n c, frm X Y p q B n c2] w fun e w' => e = .returned (.bool (decide (k = n))) ∧ Below w.heap.size w w' := by
  have HE : RowKit.Hid (∀ w1, Below w.heap.size w w1 → Calls Try.prog 44 #[.slice A n c, .slice B n c2, .func (.func 78) #[] #[]] w1 fun e w' => e = .returned (.bool (decide (k = n))) ∧ w1 = w') := hid fun w1 hb =>
    equalSame_any n c c2 k A B F G w1 hn (hF.below hb) (hG.below hb) hk h1 h2
  have hmf : ∀ (fn : Fn) (first cap : Array Value) (w : World), (Instr.makeFunc fn first cap).run Try.prog w = .ok (.func fn first cap) w := fun _ _ _ _ => rfl
  have HB : RowKit.Hid (Below w.heap.size w ((w.alloc (.cells #[.int .i64 X, .int .i64 Y, .int .i64 p, .int .i64 q, .slice A n c] 39)).alloc (.cells #[.int .i64 X, .int .i64 Y, .int .i64 p, .int .i64 q, .slice B n c2] 39))) := ((Below.refl _ _).alloc (Nat.le_refl _) _).alloc (by simp) _
  clear hF hG h1 h2
  go_enter Try.func36, Try.ntmps36
  go_wp2_with fail
  refine (HE.out _ HB.out).mono ?_
  rintro e w1 ⟨rfl, rfl⟩
  go_wp2_with fail
  go_ret
  exact ⟨rfl, HB.out⟩

set_option maxRecDepth 100000 in
set_option maxHeartbeats 1000000 in
theorem samer_yes (X Y p q : Int) (n c c2 k : Nat) (A B : Option Addr) (F G : Nat → Nat) (w : World) (hn : n ≤ 65536) (hF : Src w A n F) (hG : Src w B n G) (hk : k ≤ n) (h1 : ∀ i, i < k → cl (F i) = cl (G i)) (h2 : k < n → cl (F k) ≠ cl (G k)) :
    Calls Try.prog 37 #[frm X Y p q A n c, frm X Y p q B n c2] w fun e w' => e = .returned (.bool (decide (k = n))) ∧ Below w.heap.size w w' := by
  have HF := hid hF
  have HG := hid hG
  have H1 := hid h1
  have H2 := hid h2
  clear hF hG h1 h2
  go_enter Try.func37, Try.ntmps37
  go_wp2
  go_loopw [23] (fun i wr => ∃ j : Nat, j ≤ k ∧ i = .int .i64 j ∧ Blk wr w.heap.size 39 #[.int .i64 X, .int .i64 Y, .int .i64 p, .int .i64 q, .slice A n c] ∧ Blk wr (w.heap.size + 1) 39 #[.int .i64 X, .int .i64 Y, .int .i64 p, .int .i64 q, .slice B n c2] ∧ Below w.heap.size w wr) (fun i _ => n - (intOf i).toNat)
  case atStart => exact ⟨0, Nat.zero_le _, rfl, (Blk.new_at _ _ _ rfl).alloc _, Blk.new_at _ _ _ (by simp), ((Below.refl _ _).alloc (Nat.le_refl _) _).alloc (by simp) _⟩
  case round =>
    obtain ⟨j, hj, rfl, h0, h1, h2⟩ := hrel
    have c4 := h0.cell 4
    have d4 := h1.cell 4
    simp at c4 d4
    have H0 := hid h0
    have HH1 := hid h1
    have HH2 := hid h2
    clear h0 h1 h2
    by_cases hlt : j < n
    · obtain ⟨ba, oa, rfl, hba, hRa⟩ := HF.out (by omega)
      obtain ⟨bb, ob, rfl, hbb, hRb⟩ := HG.out (by omega)
      have s1 : wr.cell? ⟨ba, oa + j, none⟩ = some (.float .f32 (F j)) := (HH2.out.cell (p := ⟨ba, oa + j, none⟩) hba).trans (hRa j hlt)
      have s2 : wr.cell? ⟨bb, ob + j, none⟩ = some (.float .f32 (G j)) := (HH2.out.cell (p := ⟨bb, ob + j, none⟩) hbb).trans (hRb j hlt)
      have k1 : (0 : Int) ≤ (j : Int) := by omega
      have k2 : (j : Int) < (n : Int) := by omega
      clear hRa hRb
      by_cases hjk : j < k
      · have hz : (cl (F j) == cl (G j)) = true := by simp [H1.out j hjk]
        go_wp2_with fail
        go_quiet ((go_at_call 79; exact Calls.quiet_of_same (bit_q (F j) (G j) _)))
        go_wp2_with fail
        go_roundw
        case rel => exact ⟨j + 1, by omega, by go_num, H0.out.drewN _, HH1.out.drewN _, below_drewN HH2.out _⟩
        case measure => simp [intOf]; omega
      · have hjk2 : j = k := by omega
        subst hjk2
        have hz : (cl (F j) == cl (G j)) = false := by simpa using H2.out hlt
        have hd : decide (j = n) = false := by simp; omega
        go_wp2_with fail
        go_quiet ((go_at_call 79; exact Calls.quiet_of_same (bit_q (F j) (G j) _)))
        go_wp2_with fail
        go_ret
        refine ⟨?_, below_drewN HH2.out _⟩
        first | rfl | (rw [hd]; rfl)
    · have hjn : j = n := by omega
      have hkn : k = n := by omega
      have hd : decide (k = n) = true := by simp [hkn]
      go_wp2_with fail
      go_ret
      refine ⟨?_, HH2.out⟩
      first | rfl | (rw [hd]; rfl)

/-- Both say the same of two right frames. -/
theorem same_both (X Y p q X' Y' p' q' : Int) (n c n' c' : Nat) (A B : Option Addr) (F G : Nat → Nat) (h1 : frmE X Y p q n = 0) (h2 : frmE X' Y' p' q' n' = 0) (hn : n ≤ 65536) :
    ∃ s : Bool, (∀ w, Src w A n F → Src w B n' G → Calls Try.prog 36 #[frm X Y p q A n c, frm X' Y' p' q' B n' c'] w fun e w' => e = .returned (.bool s) ∧ Below w.heap.size w w') ∧
      (∀ w, Src w A n F → Src w B n' G → Calls Try.prog 37 #[frm X Y p q A n c, frm X' Y' p' q' B n' c'] w fun e w' => e = .returned (.bool s) ∧ Below w.heap.size w w') := by
  by_cases h : X = X' ∧ Y = Y' ∧ p = p' ∧ q = q'
  · obtain ⟨e1, e2, e3, e4⟩ := h
    obtain ⟨_, g1⟩ := frmE_zero h1
    obtain ⟨_, g2⟩ := frmE_zero h2
    have e5 : n' = n := by rw [← e3, ← e4, ← g1] at g2; omega
    subst e1 e2 e3 e4 e5
    obtain ⟨k, k1, k2, k3⟩ := first_diff F G n'
    exact ⟨decide (k = n'), fun w hF hG => same_yes X Y p q n' c c' k A B F G w hn hF hG k1 k2 k3, fun w hF hG => samer_yes X Y p q n' c c' k A B F G w hn hF hG k1 k2 k3⟩
  · refine ⟨false, ?_, ?_⟩
    · intro w _ _
      rcases neq_reg (show apartB X Y p q X' Y' p' q' from h) with e | ⟨rfl, e⟩ | ⟨rfl, rfl, e⟩ | ⟨rfl, rfl, rfl, e⟩
      · exact same_no0 X Y p q X' Y' p' q' n c n' c' A B w e
      · exact same_no1 X' Y p q Y' p' q' n c n' c' A B w e
      · exact same_no2 X' Y' p q p' q' n c n' c' A B w e
      · exact same_no3 X' Y' p' q q' n c n' c' A B w e
    · intro w _ _
      rcases neq_reg (show apartB X Y p q X' Y' p' q' from h) with e | ⟨rfl, e⟩ | ⟨rfl, rfl, e⟩ | ⟨rfl, rfl, rfl, e⟩
      · exact samer_no0 X Y p q X' Y' p' q' n c n' c' A B w e
      · exact samer_no1 X' Y p q Y' p' q' n c n' c' A B w e
      · exact samer_no2 X' Y' p q p' q' n c n' c' A B w e
      · exact samer_no3 X' Y' p' q q' n c n' c' A B w e
end Go.Proofs.Ytjlghjblpbckfaa
