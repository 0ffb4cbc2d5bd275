/-
  What Fill, At, Put, Cut and Paste say, for whatever region and place, beside the reference.
-/
import Derived.Test.YtjlghjblpbckfaaFPutP
import Derived.Test.YtjlghjblpbckfaaFIn
namespace Go.Proofs.Ytjlghjblpbckfaa
open Go.RowKit Go.Shelf

/-- A frame and an error; with an error the frame of nothing. -/
def FOu (w : World) (E X Y p q : Int) (n : Nat) (F : Nat → Nat) (e : Ending) (w' : World) : Prop :=
  ∃ A c, e = .returned (.tuple #[frm X Y p q A n c, .int .i64 E]) ∧ Src w' A n F ∧ Below w.heap.size w w' ∧ ∀ a, A = some a → w.heap.size ≤ a.block
theorem FOu.ok {w w' : World} {X Y : Int} {p q n : Nat} {F : Nat → Nat} {e : Ending} (h : FramedOk w X Y p q n F e w') : FOu w 0 X Y p q n F e w' := by
  obtain ⟨b, c, he, _, _, h3, h4, h5, h6⟩ := h
  exact ⟨_, c, he, Src.of_rd h5 h4, h6, fun a ha => by injection ha with ha; rw [← ha]; exact h3⟩
theorem FOu.err {w w' : World} {E : Int} {F : Nat → Nat} {e : Ending} (h : ErrOut w E e w') : FOu w E 0 0 0 0 0 F e w' :=
  ⟨none, 0, h.1, fun h => absurd h (by omega), h.2, fun a ha => by cases ha⟩

/-- A new frame that reads as F, sides as integers. -/
def FO (w : World) (X Y p q : Int) (n : Nat) (F : Nat → Nat) (e : Ending) (w' : World) : Prop :=
  ∃ A c, e = .returned (frm X Y p q A n c) ∧ Src w' A n F ∧ Below w.heap.size w w' ∧ ∀ a, A = some a → w.heap.size ≤ a.block
theorem FO.of {w w' : World} {X Y : Int} {p q n : Nat} {F : Nat → Nat} {e : Ending} (h : Framed w X Y p q n F e w') : FO w X Y p q n F e w' := by
  obtain ⟨b, c, he, _, _, h3, h4, h5, h6⟩ := h
  exact ⟨_, c, he, Src.of_rd h5 h4, h6, fun a ha => by injection ha with ha; rw [← ha]; exact h3⟩

structure FillB (x y a b : Int) (P : Nat → Nat) (X0 Y0 p0 q0 : Int) (n0 : Nat) (F0 : Nat → Nat) : Prop where
  prog : ∀ w, Calls Try.prog 22 #[reg x y a b, pix P] w (FOu w (regE x y a b) X0 Y0 p0 q0 n0 F0)
  le : n0 ≤ 65536
  ok : regE x y a b = 0 → X0 = x ∧ Y0 = y ∧ p0 = a ∧ q0 = b ∧ ∀ (w : World) (bp : Nat), Blk w bp 42 (pixC P) → Calls Try.prog 24 #[reg x y a b, .func (.func 25) #[] #[.pointer (some ⟨bp, 0, none⟩)]] w (FO w x y a b n0 F0)
theorem fill_both (x y a b : Int) (P : Nat → Nat) : ∃ (X0 Y0 p0 q0 : Int) (n0 : Nat) (F0 : Nat → Nat), FillB x y a b P X0 Y0 p0 q0 n0 F0 := by
  by_cases h : regE x y a b = 0
  · obtain ⟨a1, a2, b1, b2, ab, x1, x2, y1, y2⟩ := regE_zero h
    obtain ⟨p, rfl⟩ := Int.eq_ofNat_of_zero_le (show 0 ≤ a by omega)
    obtain ⟨q, rfl⟩ := Int.eq_ofNat_of_zero_le (show 0 ≤ b by omega)
    have hm : ((p * q : Nat) : Int) = (p : Int) * (q : Int) := by push_cast; rfl
    refine ⟨x, y, p, q, 4 * (p * q), fun t => cl (P (t % 4)), ⟨fun w => ?_, by omega, fun _ => ⟨rfl, rfl, rfl, rfl, fun w bp hb => ?_⟩⟩⟩
    · rw [h]
      exact (fill_ok x y p q (4 * (p * q)) P w h rfl).mono fun _ _ h => .ok h
    · exact (made_law1 x y p q (4 * (p * q)) bp P w h rfl hb).mono fun _ _ h => .of h
  · exact ⟨0, 0, 0, 0, 0, fun _ => 0, ⟨fun w => (fill_bad x y a b P w h).mono fun _ _ h => .err h, by omega, fun hh => absurd hh h⟩⟩

structure CutB (X Y : Int) (p q n c : Nat) (A : Option Addr) (F : Nat → Nat) (x y a b : Int) (E X0 Y0 p0 q0 : Int) (n0 : Nat) (F0 : Nat → Nat) : Prop where
  prog : ∀ w, Src w A n F → Calls Try.prog 33 #[frm X Y p q A n c, reg x y a b] w (FOu w E X0 Y0 p0 q0 n0 F0)
  le : n0 ≤ 65536
  bad : regE x y a b ≠ 0 → E = regE x y a b
  out : regE x y a b = 0 → inB x y a b X Y p q = false → E = 5
  ok : regE x y a b = 0 → inB x y a b X Y p q = true → E = 0 ∧ X0 = x ∧ Y0 = y ∧ p0 = a ∧ q0 = b ∧ ∀ w, Src w A n F → Calls Try.prog 34 #[frm X Y p q A n c, reg x y a b] w (FO w x y a b n0 F0)
theorem cut_both (X Y : Int) (p q n c : Nat) (A : Option Addr) (F : Nat → Nat) (x y a b : Int) (h1 : frmE X Y p q n = 0) (hnc : n ≤ c) (hcm : c ≤ maxLen) : ∃ (E X0 Y0 p0 q0 : Int) (n0 : Nat) (F0 : Nat → Nat), CutB X Y p q n c A F x y a b E X0 Y0 p0 q0 n0 F0 := by
  by_cases h : regE x y a b = 0
  · by_cases hin : inB x y a b X Y p q = true
    · obtain ⟨i1, i2, i3, i4⟩ := inB_true.1 hin
      obtain ⟨a1, a2, b1, b2, ab, x1, x2, y1, y2⟩ := regE_zero h
      obtain ⟨p', rfl⟩ := Int.eq_ofNat_of_zero_le (show 0 ≤ a by omega)
      obtain ⟨q', rfl⟩ := Int.eq_ofNat_of_zero_le (show 0 ≤ b by omega)
      obtain ⟨ei, hei⟩ := Int.eq_ofNat_of_zero_le (show 0 ≤ x - X by omega)
      obtain ⟨ej, hej⟩ := Int.eq_ofNat_of_zero_le (show 0 ≤ y - Y by omega)
      have hm : ((p' * q' : Nat) : Int) = (p' : Int) * (q' : Int) := by push_cast; rfl
      refine ⟨0, x, y, p', q', 4 * (p' * q'), _, ⟨fun w hF => (cut_ok X Y x y p q n c p' q' (4 * (p' * q')) ei ej A F w h1 h (by omega) (by omega) (by omega) (by omega) rfl hnc hcm hF).mono fun _ _ h => .ok h, by omega, fun hh => absurd h hh, fun _ hh => (by rw [hin] at hh; cases hh), fun _ _ => ⟨rfl, rfl, rfl, rfl, rfl, fun w hF => ?_⟩⟩⟩
      exact (cutr_ok X Y x y p q n c p' q' (4 * (p' * q')) ei ej A F w h1 h (by omega) (by omega) (by omega) (by omega) rfl hnc hcm hF).mono fun _ _ h => .of h
    · have hin' : inB x y a b X Y p q = false := by simpa using hin
      exact ⟨5, 0, 0, 0, 0, 0, fun _ => 0, ⟨fun w _ => (cut_place X Y p q n c A x y a b w h1 h hin').mono fun _ _ h => .err h, by omega, fun hh => absurd h hh, fun _ _ => rfl, fun _ hh => absurd hh hin⟩⟩
  · exact ⟨regE x y a b, 0, 0, 0, 0, 0, fun _ => 0, ⟨fun w _ => (cut_bad X Y p q n c A x y a b w h1 h).mono fun _ _ h => .err h, by omega, fun _ => rfl, fun hh => absurd hh h, fun hh => absurd hh h⟩⟩

structure PasteB (X Y : Int) (p q n c : Nat) (A : Option Addr) (F : Nat → Nat) (X' Y' : Int) (p' q' n' c' : Nat) (B : Option Addr) (G : Nat → Nat) (ok : Bool) (E X0 Y0 p0 q0 : Int) (n0 : Nat) (F0 : Nat → Nat) : Prop where
  prog : ∀ w, Src w A n F → Src w B n' G → Calls Try.prog 35 #[frm X Y p q A n c, frm X' Y' p' q' B n' c'] w (FOu w E X0 Y0 p0 q0 n0 F0)
  com : ∀ w, Calls Try.prog 18 #[reg X Y p q, reg X' Y' p' q'] w fun e w' => ∃ r0 r1 r2 r3, e = .returned (.tuple #[reg r0 r1 r2 r3, .bool ok]) ∧ Below w.heap.size w w'
  le : n0 ≤ 65536
  no : ok = false → E = 5 ∧ n0 = 0
  yes : ok = true → E = 0 ∧ X0 = X ∧ Y0 = Y ∧ p0 = p ∧ q0 = q ∧ ∀ w, Src w A n F → Src w B n' G → Calls Try.prog 32 #[frm X Y p q A n c, frm X' Y' p' q' B n' c'] w (FO w X Y p q n0 F0)
theorem paste_both (X Y : Int) (p q n c : Nat) (A : Option Addr) (F : Nat → Nat) (X' Y' : Int) (p' q' n' c' : Nat) (B : Option Addr) (G : Nat → Nat) (h1 : frmE X Y p q n = 0) (h2 : frmE X' Y' p' q' n' = 0) (hn : n ≤ 65536) (hnc : n ≤ c) (hcm : c ≤ maxLen) (hnc' : n' ≤ c') (hcm' : c' ≤ maxLen) :
    ∃ (ok : Bool) (E X0 Y0 p0 q0 : Int) (n0 : Nat) (F0 : Nat → Nat), PasteB X Y p q n c A F X' Y' p' q' n' c' B G ok E X0 Y0 p0 q0 n0 F0 := by
  have s1 := small_of (frmE_zero h1).1
  have s2 := small_of (frmE_zero h2).1
  by_cases hc : max X X' < min (X + p) (X' + p') ∧ max Y Y' < min (Y + q) (Y' + q')
  · obtain ⟨hx, hy⟩ := hc
    obtain ⟨di, hdi⟩ := Int.eq_ofNat_of_zero_le (show 0 ≤ max X X' - X by omega)
    obtain ⟨dj, hdj⟩ := Int.eq_ofNat_of_zero_le (show 0 ≤ max Y Y' - Y by omega)
    obtain ⟨ei, hei⟩ := Int.eq_ofNat_of_zero_le (show 0 ≤ max X X' - X' by omega)
    obtain ⟨ej, hej⟩ := Int.eq_ofNat_of_zero_le (show 0 ≤ max Y Y' - Y' by omega)
    obtain ⟨a, ha⟩ := Int.eq_ofNat_of_zero_le (show 0 ≤ min (X + p) (X' + p') - max X X' by omega)
    obtain ⟨b, hb⟩ := Int.eq_ofNat_of_zero_le (show 0 ≤ min (Y + q) (Y' + q') - max Y Y' by omega)
    refine ⟨true, 0, X, Y, p, q, n, _, ⟨fun w hF hG => (paste_ok X Y X' Y' (max X X') (max Y Y') p q n c p' q' n' c' a b di dj ei ej A B F G w h1 h2 (by omega) (by omega) (by omega) (by omega) (by omega) (by omega) (by omega) (by omega) (by omega) rfl rfl ha hb (by omega) hnc' hcm' hF hG).mono fun _ _ h => .ok h,
      fun w => (commonr_yes X Y p q X' Y' p' q' s1 s2 hx hy w).mono fun _ _ ⟨h1, h2⟩ => ⟨_, _, _, _, h1, h2⟩, hn, fun h => (by cases h), fun _ => ⟨rfl, rfl, rfl, rfl, rfl, fun w hF hG => ?_⟩⟩⟩
    exact (paster_ok X Y X' Y' (max X X') (max Y Y') p q n c p' q' n' c' a b di dj ei ej A B F G w h1 h2 (by omega) (by omega) (by omega) (by omega) (by omega) rfl rfl ha hb hnc hcm hnc' hcm' hF hG).mono fun _ _ h => .of h
  · exact ⟨false, 5, 0, 0, 0, 0, 0, fun _ => 0, ⟨fun w _ _ => (paste_apart X Y p q X' Y' p' q' n c n' c' A B w h1 h2 hc).mono fun _ _ h => .err h, fun w => (commonr_no X Y p q X' Y' p' q' s1 s2 hc w).mono fun _ _ ⟨h1, h2⟩ => ⟨_, _, _, _, h1, h2⟩, by omega, fun _ => ⟨rfl, rfl⟩, fun h => by cases h⟩⟩

structure PutB (X Y : Int) (p q n c : Nat) (A : Option Addr) (F : Nat → Nat) (x y : Int) (P : Nat → Nat) (inn : Bool) (E X0 Y0 p0 q0 : Int) (n0 : Nat) (F0 Q : Nat → Nat) : Prop where
  at_ : ∀ w, Src w A n F → Calls Try.prog 26 #[frm X Y p q A n c, .int .i64 x, .int .i64 y] w (PixOut w E Q)
  put : ∀ w, Src w A n F → Calls Try.prog 27 #[frm X Y p q A n c, .int .i64 x, .int .i64 y, pix P] w (FOu w E X0 Y0 p0 q0 n0 F0)
  inr : ∀ w, Calls Try.prog 20 #[reg x y 1 1, reg X Y p q] w fun e w' => e = .returned (.bool inn) ∧ Below w.heap.size w w'
  le : n0 ≤ 65536
  no : inn = false → E = 5 ∧ Q = fun _ => 0
  yes : inn = true → E = 0 ∧ X0 = X ∧ Y0 = Y ∧ p0 = p ∧ q0 = q ∧
    (∃ W : Nat → Nat, cl (W 0) = Q 0 ∧ cl (W 3) = Q 3 ∧ ∀ w, Src w A n F → Calls Try.prog 28 #[frm X Y p q A n c, .int .i64 x, .int .i64 y] w fun e w' => e = .returned (pix W) ∧ Below w.heap.size w w') ∧
    (∀ (w : World) (bp : Nat), Blk w bp 42 (pixC P) → Calls Try.prog 24 #[reg x y 1 1, .func (.func 29) #[] #[.pointer (some ⟨bp, 0, none⟩)]] w (Framed w x y (1 : Nat) (1 : Nat) 4 (fun t => cl (P (t % 4))))) ∧
    ∀ (w : World) (B : Option Addr) (c' : Nat), 4 ≤ c' → c' ≤ maxLen → Src w A n F → Src w B 4 (fun t => cl (P (t % 4))) → Calls Try.prog 32 #[frm X Y p q A n c, frm x y 1 1 B 4 c'] w (FO w X Y p q n0 F0)
theorem put_both (X Y : Int) (p q n c : Nat) (A : Option Addr) (F : Nat → Nat) (x y : Int) (P : Nat → Nat) (h1 : frmE X Y p q n = 0) (hn : n ≤ 65536) (hnc : n ≤ c) (hcm : c ≤ maxLen) (hX1 : -1000 ≤ X) (hX2 : X ≤ 1000) (hY1 : -1000 ≤ Y) (hY2 : Y ≤ 1000) (hp : p ≤ 8) (hq : q ≤ 8) :
    ∃ (inn : Bool) (E X0 Y0 p0 q0 : Int) (n0 : Nat) (F0 Q : Nat → Nat), PutB X Y p q n c A F x y P inn E X0 Y0 p0 q0 n0 F0 Q := by
  have s1 := small_of (frmE_zero h1).1
  have hir := fun w => insiderW_any x y 1 1 X Y p q (by omega) (by omega) (by omega) (by omega) s1 w
  by_cases hin : inB x y 1 1 X Y p q = true
  · obtain ⟨i1, i2, i3, i4⟩ := inB_true.1 hin
    obtain ⟨hr1, hn4⟩ := frmE_zero h1
    obtain ⟨p1, p2, q1, q2, pq, x1, x2, y1, y2⟩ := regE_zero hr1
    obtain ⟨i, hi⟩ := Int.eq_ofNat_of_zero_le (show 0 ≤ x - X by omega)
    obtain ⟨j, hj⟩ := Int.eq_ofNat_of_zero_le (show 0 ≤ y - Y by omega)
    have ex : x = X + i := by omega
    have ey : y = Y + j := by omega
    subst ex ey
    have hn' : n = 4 * (p * q) := by
      rw [Int.mul_assoc] at hn4
      have : ((4 * (p * q) : Nat) : Int) = 4 * ((p : Int) * (q : Int)) := by push_cast; rfl
      omega
    have h11 : regE (X + i) (Y + j) (1 : Nat) (1 : Nat) = 0 := regE_ok (sideB_true.2 ⟨by omega, by omega⟩) (sideB_true.2 ⟨by omega, by omega⟩) (by decide) (atB_true.2 ⟨by omega, by omega⟩) (atB_true.2 ⟨by omega, by omega⟩)
    have hf1 : frmE (X + i) (Y + j) (1 : Nat) (1 : Nat) 4 = 0 := frmE_ok h11 (by decide)
    refine ⟨true, 0, X, Y, p, q, n, rowUp (fun t => cl (F t)) (4 * (p * j + i)) 4 (fun s => cl (P s)), fun k => cl (F (4 * (p * j + i) + k)),
      ⟨fun w hF => at_in X Y p q n c i j A F w h1 (by omega) (by omega) hnc hcm hF, fun w hF => (put_in X Y p q n c i j A F P w h1 (by omega) (by omega) hF).mono fun _ _ h => .ok h, fun w => (by rw [← hin]; exact hir w), hn, fun h => (by cases h), fun _ => ⟨rfl, rfl, rfl, rfl, rfl, ⟨fun k => F (4 * (p * j + i) + k), rfl, rfl, fun w hF => ?_⟩, fun w bp hb => ?_, fun w B c' hc1 hc2 hF hB => ?_⟩⟩⟩
    · exact pixAt_in X Y (X + i) (Y + j) p q n c i j A F w rfl rfl (by omega) (by omega) hn' hnc hcm hn (by omega) (by omega) (by omega) (by omega) (by omega) (by omega) hF
    · exact made_law2 (X + i) (Y + j) 1 1 4 bp P w h11 rfl hb
    · refine (paster_ok X Y (X + i) (Y + j) (X + i) (Y + j) p q n c 1 1 4 c' 1 1 i j 0 0 A B F (fun t => cl (P (t % 4))) w h1 hf1 rfl (by omega) rfl (by omega) (by omega) (by omega) (by omega) (by omega) (by omega) hnc hcm hc1 hc2 hF hB).mono fun _ _ h => .of (h.congr fun t _ => ?_)
      show rowUp (fun t => cl (F t)) (4 * (p * (j + 0) + i)) (4 * 1) (fun s => cl (cl (P ((4 * (1 * (0 + 0) + 0) + s) % 4)))) t = _
      rw [Nat.add_zero]
      unfold rowUp
      by_cases hb : 4 * (p * j + i) ≤ t ∧ t < 4 * (p * j + i) + 4
      · rw [if_pos hb, if_pos hb]
        show cl (cl (P ((4 * (1 * (0 + 0) + 0) + (t - 4 * (p * j + i))) % 4))) = cl (P (t - 4 * (p * j + i)))
        rw [cl_cl]
        congr 2
        omega
      · rw [if_neg hb, if_neg hb]
  · have hin' : inB x y 1 1 X Y p q = false := by simpa using hin
    have hip : inP X Y p q x y = false := inP_false.2 fun h => by
      have := inB_false.1 hin'
      omega
    exact ⟨false, 5, 0, 0, 0, 0, 0, fun _ => 0, fun _ => 0, ⟨fun w _ => at_out X Y p q x y n c A w h1 hip, fun w _ => (put_out X Y p q x y n c A P w h1 hip).mono fun _ _ h => .err h, fun w => (by rw [← hin']; exact hir w), by omega, fun _ => ⟨rfl, rfl⟩, fun h => by cases h⟩⟩
end Go.Proofs.Ytjlghjblpbckfaa
