/-
  SharpensAsSaid: what the law calls.
-/
import Derived.Test.YthoiiccecneefaaQSd
import Derived.Test.YthoiiccecneefaaQSf
import Derived.Test.YthoiiccecneefaaQNn
namespace Go.Proofs.Ythoiiccecneefaa
open Go.RowKit Go.Shelf
attribute [local go_sem] run_store_float

set_option maxRecDepth 100000 in
set_option maxHeartbeats 1000000 in
theorem first_three0 (E1 E2 E3 : Int) (g : Nat) (w : World) (h : Blk w g 30 #[.int .i64 E1, .int .i64 E2, .int .i64 E3]) (h1 : (E1 != 0) = true) :
    Calls Try.prog 22 #[.slice (some ⟨g, 0, none⟩) 3 3] w fun e w' => e = .returned (.int .i64 (E1)) ∧ w = w' := by
  have c0 := h.cell 0
  have c1 := h.cell 1
  have c2 := h.cell 2
  simp at c0 c1 c2
  clear h
  go_enter Try.func22, Try.ntmps22
  go_wp2_with fail
  go_loop [7] (fun i => ∃ k : Nat, k ≤ 0 ∧ i = .int .i64 k) (fun i => 0 - (intOf i).toNat)
  case atStart => exact ⟨0, by omega, rfl⟩
  case round =>
    obtain ⟨k, hk, rfl⟩ := hrel
    have hk3 : k = 0 := by omega
    subst hk3
    go_wp2_with fail
    go_ret
    exact ⟨rfl, rfl⟩

set_option maxRecDepth 100000 in
set_option maxHeartbeats 1000000 in
theorem first_three1 (E1 E2 E3 : Int) (g : Nat) (w : World) (h : Blk w g 30 #[.int .i64 E1, .int .i64 E2, .int .i64 E3]) (h1 : (E1 != 0) = false) (h2 : (E2 != 0) = true) :
    Calls Try.prog 22 #[.slice (some ⟨g, 0, none⟩) 3 3] w fun e w' => e = .returned (.int .i64 (E2)) ∧ w = w' := by
  have c0 := h.cell 0
  have c1 := h.cell 1
  have c2 := h.cell 2
  simp at c0 c1 c2
  clear h
  go_enter Try.func22, Try.ntmps22
  go_wp2_with fail
  go_loop [7] (fun i => ∃ k : Nat, k ≤ 1 ∧ i = .int .i64 k) (fun i => 1 - (intOf i).toNat)
  case atStart => exact ⟨0, by omega, rfl⟩
  case round =>
    obtain ⟨k, hk, rfl⟩ := hrel
    have hk3 : k = 0 ∨ k = 1 := by omega
    rcases hk3 with rfl | rfl
    · go_wp2_with fail
      go_round
      case rel => exact ⟨1, by omega, rfl⟩
      case measure => simp [intOf]
    · go_wp2_with fail
      go_ret
      exact ⟨rfl, rfl⟩

set_option maxRecDepth 100000 in
set_option maxHeartbeats 1000000 in
theorem first_three2 (E1 E2 E3 : Int) (g : Nat) (w : World) (h : Blk w g 30 #[.int .i64 E1, .int .i64 E2, .int .i64 E3]) (h1 : (E1 != 0) = false) (h2 : (E2 != 0) = false) (h3 : (E3 != 0) = true) :
    Calls Try.prog 22 #[.slice (some ⟨g, 0, none⟩) 3 3] w fun e w' => e = .returned (.int .i64 (E3)) ∧ w = w' := by
  have c0 := h.cell 0
  have c1 := h.cell 1
  have c2 := h.cell 2
  simp at c0 c1 c2
  clear h
  go_enter Try.func22, Try.ntmps22
  go_wp2_with fail
  go_loop [7] (fun i => ∃ k : Nat, k ≤ 2 ∧ i = .int .i64 k) (fun i => 2 - (intOf i).toNat)
  case atStart => exact ⟨0, by omega, rfl⟩
  case round =>
    obtain ⟨k, hk, rfl⟩ := hrel
    have hk3 : k = 0 ∨ k = 1 ∨ k = 2 := by omega
    rcases hk3 with rfl | rfl | rfl
    · go_wp2_with fail
      go_round
      case rel => exact ⟨1, by omega, rfl⟩
      case measure => simp [intOf]
    · go_wp2_with fail
      go_round
      case rel => exact ⟨2, by omega, rfl⟩
      case measure => simp [intOf]
    · go_wp2_with fail
      go_ret
      exact ⟨rfl, rfl⟩

set_option maxRecDepth 100000 in
set_option maxHeartbeats 1000000 in
theorem first_three3 (E1 E2 E3 : Int) (g : Nat) (w : World) (h : Blk w g 30 #[.int .i64 E1, .int .i64 E2, .int .i64 E3]) (h1 : (E1 != 0) = false) (h2 : (E2 != 0) = false) (h3 : (E3 != 0) = false) :
    Calls Try.prog 22 #[.slice (some ⟨g, 0, none⟩) 3 3] w fun e w' => e = .returned (.int .i64 (0)) ∧ w = w' := by
  have c0 := h.cell 0
  have c1 := h.cell 1
  have c2 := h.cell 2
  simp at c0 c1 c2
  clear h
  go_enter Try.func22, Try.ntmps22
  go_wp2_with fail
  go_loop [7] (fun i => ∃ k : Nat, k ≤ 3 ∧ i = .int .i64 k) (fun i => 3 - (intOf i).toNat)
  case atStart => exact ⟨0, by omega, rfl⟩
  case round =>
    obtain ⟨k, hk, rfl⟩ := hrel
    have hk3 : k = 0 ∨ k = 1 ∨ k = 2 ∨ k = 3 := by omega
    rcases hk3 with rfl | rfl | rfl | rfl
    · go_wp2_with fail
      go_round
      case rel => exact ⟨1, by omega, rfl⟩
      case measure => simp [intOf]
    · go_wp2_with fail
      go_round
      case rel => exact ⟨2, by omega, rfl⟩
      case measure => simp [intOf]
    · go_wp2_with fail
      go_round
      case rel => exact ⟨3, by omega, rfl⟩
      case measure => simp [intOf]
    · go_wp2_with fail
      go_ret
      exact ⟨rfl, rfl⟩

/-- The first of three errors. -/
def fst3 (E1 E2 E3 : Int) : Int := if E1 = 0 then (if E2 = 0 then E3 else E2) else E1
theorem first3_any (E1 E2 E3 : Int) (g : Nat) (w : World) (h : Blk w g 30 #[.int .i64 E1, .int .i64 E2, .int .i64 E3]) :
    Calls Try.prog 22 #[.slice (some ⟨g, 0, none⟩) 3 3] w fun e w' => e = .returned (.int .i64 (fst3 E1 E2 E3)) ∧ w = w' := by
  unfold fst3
  by_cases h1 : E1 = 0
  · rw [if_pos h1]
    by_cases h2 : E2 = 0
    · rw [if_pos h2]
      by_cases h3 : E3 = 0
      · rw [h3]
        exact first_three3 E1 E2 0 g w (by rw [← h3]; exact h) (by simp [h1]) (by simp [h2]) (by simp)
      · exact first_three2 E1 E2 E3 g w h (by simp [h1]) (by simp [h2]) (by simp [h3])
    · rw [if_neg h2]
      exact first_three1 E1 E2 E3 g w h (by simp [h1]) (by simp [h2])
  · rw [if_neg h1]
    exact first_three0 E1 E2 E3 g w h (by simp [h1])
theorem whenV_any (b : Bool) (E : Int) (w : World) : Calls Try.prog 34 #[.bool b, .int .i64 E] w fun e w' => e = .returned (.int .i64 (if b = true then E else 0)) ∧ w = w' :=
  (when_any b E w).mono fun e w' ⟨R, he, h1, h2, hw⟩ => ⟨by
    rw [he]
    cases b with
    | true => rw [h1 rfl]; rfl
    | false => rw [h2 rfl]; rfl, hw⟩
theorem isNum_fin (v : Nat) (h : fin v = true) (w : World) : Calls Try.prog 35 #[.float .f32 v] w fun e w' => e = .returned (.bool true) ∧ w = w' := by
  have h1 : ∀ w, (FloatKind.f32.format.order (fop .sub .f32 v v w) 0 == some .eq) = true := fun w => by
    rw [← h, ← order_c0, cn_fop, ← sub_self]
    congr 2
    unfold cop
    rw [floatBits_cn]
  have h2 := fdrv (sub_fin (fin_not_nan h) h)
  clear h
  go_enter Try.func35, Try.ntmps35
  go_wp2_with fail
  go_ret
  exact ⟨rfl, rfl⟩

/-- What the law wants. -/
def wantE (X Y a b : Int) (n am le : Nat) : Int := if frmE X Y a b n = 0 then shE am le else frmE X Y a b n
theorem want_of {X Y a b : Int} {n am le : Nat} {fa fl g l : Bool} (h1 : fin am = fa) (h2 : fin le = fl) (h3 : wiB am 0 1098907648 = g) (h4 : (FloatKind.f32.format.order le 0 == some .lt) = l) :
    fst3 (frmE X Y a b n) (if (!fa || !fl) = true then 2 else 0) (if (!g || l) = true then 3 else 0) = wantE X Y a b n am le := by
  unfold fst3 wantE shE
  rw [h1, h2, h3, h4]
  by_cases hE : frmE X Y a b n = 0
  · rw [if_pos hE, if_pos hE]
    cases fa <;> cases fl <;> cases g <;> cases l <;> rfl
  · rw [if_neg hE, if_neg hE]

/-- What Sharpen gives. -/
def ShGives (X Y a b : Int) (n am le : Nat) (F : Nat → Nat) (hx hy hp hq : Int) (hA : Option Addr) (hn : Nat) (hc : Nat) (ie : Int) (w' : World) : Prop :=
  (wantE X Y a b n am le ≠ 0 ∧ hx = 0 ∧ hy = 0 ∧ hp = 0 ∧ hq = 0 ∧ hA = none ∧ hn = 0 ∧ hc = 0 ∧ ie = wantE X Y a b n am le) ∨
  (wantE X Y a b n am le = 0 ∧ hx = X ∧ hy = Y ∧ hp = a ∧ hq = b ∧ hn = n ∧ ie = 0 ∧ ∃ (g p q : Nat), hA = some ⟨g, 0, none⟩ ∧ a = p ∧ b = q ∧ Src w' hA n (gI (fun i j => shP F p q i j am le) p))
theorem sharp_gives (X Y a b : Int) (n c am le : Nat) (A : Option Addr) (F : Nat → Nat) (w : World) (hnc : n ≤ c) (hcm : c ≤ maxLen) (hF : Src w A n F) :
    Calls Try.prog 33 #[frm X Y a b A n c, .float .f32 am, .float .f32 le] w fun e w' => ∃ hx hy hp hq hA hn hc ie, e = .returned (.tuple #[.agg #[.int .i64 hx, .int .i64 hy, .int .i64 hp, .int .i64 hq, .slice hA hn hc], .int .i64 ie]) ∧ ShGives X Y a b n am le F hx hy hp hq hA hn hc ie w' ∧ Below w.heap.size w w' := by
  by_cases hE : frmE X Y a b n = 0
  · have hw : wantE X Y a b n am le = shE am le := by unfold wantE; rw [if_pos hE]
    by_cases hS : shE am le = 0
    · obtain ⟨hreg, _⟩ := frmE_zero hE
      obtain ⟨a1, _, b1, _⟩ := regE_zero hreg
      obtain ⟨p, rfl⟩ : ∃ p : Nat, a = p := ⟨a.toNat, by omega⟩
      obtain ⟨q, rfl⟩ : ∃ q : Nat, b = q := ⟨b.toNat, by omega⟩
      refine (sharpen_ok X Y p q n c am le A F w hE hS hnc hcm hF).mono ?_
      rintro e w' ⟨g, d, rfl, hs, hb⟩
      exact ⟨_, _, _, _, _, _, _, _, rfl, Or.inr ⟨by rw [hw, hS], rfl, rfl, rfl, rfl, rfl, rfl, g, p, q, rfl, rfl, rfl, hs⟩, hb⟩
    · have key : Calls Try.prog 33 #[frm X Y a b A n c, .float .f32 am, .float .f32 le] w (ErrOut w (shE am le)) := by
        cases h1 : (fin am && fin le) with
        | false => exact sharpen_form X Y a b n c am le A w hE h1
        | true =>
          cases h2 : (wiB am 0 1098907648 && !(FloatKind.f32.format.order le 0 == some .lt)) with
          | false => exact sharpen_range X Y a b n c am le A w hE h1 h2
          | true => exact absurd (by unfold shE; rw [if_pos h1, if_pos h2]) hS
      refine key.mono ?_
      rintro e w' ⟨rfl, hb⟩
      exact ⟨_, _, _, _, _, _, _, _, rfl, Or.inl ⟨by rw [hw]; exact hS, rfl, rfl, rfl, rfl, rfl, rfl, rfl, hw.symm⟩, hb⟩
  · have hw : wantE X Y a b n am le = frmE X Y a b n := by unfold wantE; rw [if_neg hE]
    refine (sharpen_frame X Y a b n c am le A w hE).mono ?_
    rintro e w' ⟨rfl, hb⟩
    exact ⟨_, _, _, _, _, _, _, _, rfl, Or.inl ⟨by rw [hw]; exact hE, rfl, rfl, rfl, rfl, rfl, rfl, rfl, hw.symm⟩, hb⟩
end Go.Proofs.Ythoiiccecneefaa
