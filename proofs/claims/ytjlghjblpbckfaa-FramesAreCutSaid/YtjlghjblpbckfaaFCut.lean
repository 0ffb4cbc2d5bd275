/-
  Cut, in the program.
-/
import Derived.Test.YtjlghjblpbckfaaFSpan
import Derived.Test.YtjlghjblpbckfaaFCom
import Derived.Test.YtjlghjblpbckfaaFMix
namespace Go.Proofs.Ytjlghjblpbckfaa
open Go.RowKit Go.Shelf

/-- The boxes of Cut. -/
structure CSt (w : World) (X Y p q : Int) (n c : Nat) (A : Option Addr) (U V a b : Int) (wr : World) : Prop where
  f : Blk wr w.heap.size 39 #[.int .i64 X, .int .i64 Y, .int .i64 p, .int .i64 q, .slice A n c]
  r : Blk wr (w.heap.size + 1) 23 #[.int .i64 U, .int .i64 V, .int .i64 a, .int .i64 b]
  z : Blk wr (w.heap.size + 2) 39 zfrm
  be : Below w.heap.size w wr
section
variable {w wr w1 : World} {X Y p q U V a b : Int} {n c : Nat} {A : Option Addr}
theorem CSt.below (h : CSt w X Y p q n c A U V a b wr) (hb : Below wr.heap.size wr w1) : CSt w X Y p q n c A U V a b w1 := ⟨h.f.below hb h.f.lt, h.r.below hb h.r.lt, h.z.below hb h.z.lt, below_to h.be hb⟩
theorem CSt.grown {S : Nat} (hS : w.heap.size + 2 < S) (h : CSt w X Y p q n c A U V a b wr) (hg : wr.grownBy w1 (some S)) : CSt w X Y p q n c A U V a b w1 :=
  ⟨h.f.grown hg (by simp; omega), h.r.grown hg (by simp; omega), h.z.grown hg (by simp; omega), h.be.grown hg (by have := h.be.size; omega) (by intro k hk; injection hk with hk; omega)⟩
theorem CSt.start (w : World) (X Y p q U V a b : Int) (n c : Nat) (A : Option Addr) : CSt w X Y p q n c A U V a b (((w.alloc (.cells #[.int .i64 X, .int .i64 Y, .int .i64 p, .int .i64 q, .slice A n c] 39)).alloc (.cells #[.int .i64 U, .int .i64 V, .int .i64 a, .int .i64 b] 23)).alloc (.cells zfrm 39)) :=
  ⟨((Blk.new_at _ _ _ rfl).alloc _).alloc _, (Blk.new_at _ _ _ (by simp)).alloc _, Blk.new_at _ _ _ (by simp), (((Below.refl _ _).alloc (Nat.le_refl _) _).alloc (by simp) _).alloc (by simp; omega) _⟩
end

theorem trF_cut (f G : Nat → Nat) (a p ei ej : Nat) (ha : 0 < a) : ∀ (r t : Nat), t < 4 * (a * r) → trF f G a p 0 0 ei ej a r t = cl (G (4 * (p * (ej + t / 4 / a) + (ei + t / 4 % a)) + t % 4)) := by
  intro r
  induction r with
  | zero => intro t h; omega
  | succ r ih =>
    intro t h
    have e1 : a * (0 + r) + 0 = a * r := by rw [Nat.zero_add, Nat.add_zero]
    rw [Nat.mul_succ] at h
    show rowUp (trF f G a p 0 0 ei ej a r) (4 * (a * (0 + r) + 0)) (4 * a) (fun s => cl (G (4 * (p * (ej + r) + ei) + s))) t = _
    rw [e1]
    unfold rowUp
    by_cases hb : 4 * (a * r) ≤ t
    · rw [if_pos ⟨hb, by omega⟩]
      obtain ⟨s, hs⟩ : ∃ s, t = 4 * (a * r) + s := ⟨t - 4 * (a * r), by omega⟩
      have s2 : s < 4 * a := by omega
      have q1 : t / 4 = a * r + s / 4 := by omega
      have q2 : s / 4 < a := by omega
      have q3 : (a * r + s / 4) / a = r := by rw [Nat.mul_add_div ha, Nat.div_eq_of_lt q2, Nat.add_zero]
      have q4 : (a * r + s / 4) % a = s / 4 := by rw [Nat.mul_add_mod, Nat.mod_eq_of_lt q2]
      rw [q1, q3, q4]
      show cl (G (4 * (p * (ej + r) + ei) + (t - 4 * (a * r)))) = _
      congr 2
      omega
    · rw [if_neg (by omega)]
      exact ih t (by omega)

set_option maxRecDepth 100000 in
set_option maxHeartbeats 2000000 in
theorem cut_bad (X Y p q : Int) (n c : Nat) (A : Option Addr) (U V a b : Int) (w : World) (h1 : frmE X Y p q n = 0) (h2 : ¬ regE U V a b = 0) :
    Calls Try.prog 33 #[frm X Y p q A n c, reg U V a b] w (ErrOut w (regE U V a b)) := by
  have g1 : (frmE X Y p q n != 0) = false := by simp [h1]
  have g2 : (regE U V a b != 0) = true := by simp [h2]
  clear h1 h2
  have HS0 := hid (CSt.start w X Y p q U V a b n c A)
  go_enter Try.func33, Try.ntmps33
  go_wp2_with fail
  refine (check_any _ _ _ _ _ _ _ _).mono ?_
  rintro e w1 ⟨rfl, hb⟩
  have HS1 := hid (HS0.out.below hb)
  have c0 := HS1.out.r.cell 0
  have c1 := HS1.out.r.cell 1
  have c2 := HS1.out.r.cell 2
  have c3 := HS1.out.r.cell 3
  have z0 := HS1.out.z.cell 0
  have z1 := HS1.out.z.cell 1
  have z2 := HS1.out.z.cell 2
  have z3 := HS1.out.z.cell 3
  have z4 := HS1.out.z.cell 4
  have fz := fun i => HS1.out.z.frozen i
  simp at c0 c1 c2 c3 z0 z1 z2 z3 z4
  clear hb HS0
  go_wp2_with fail
  refine (checkRegion_any _ _ _ _ _).mono ?_
  rintro e w2 ⟨rfl, hb⟩
  have HS2 := hid (HS1.out.below hb)
  clear c0 c1 c2 c3 z0 z1 z2 z3 z4 fz hb HS1
  have c0 := HS2.out.r.cell 0
  have c1 := HS2.out.r.cell 1
  have c2 := HS2.out.r.cell 2
  have c3 := HS2.out.r.cell 3
  have d0 := HS2.out.f.cell 0
  have d1 := HS2.out.f.cell 1
  have d2 := HS2.out.f.cell 2
  have d3 := HS2.out.f.cell 3
  have d4 := HS2.out.f.cell 4
  have z0 := HS2.out.z.cell 0
  have z1 := HS2.out.z.cell 1
  have z2 := HS2.out.z.cell 2
  have z3 := HS2.out.z.cell 3
  have z4 := HS2.out.z.cell 4
  have fz := fun i => HS2.out.z.frozen i
  simp at c0 c1 c2 c3 d0 d1 d2 d3 d4 z0 z1 z2 z3 z4
  have HBK := hid (HS2.out.z.set5 (.int .i64 0) (.int .i64 0) (.int .i64 0) (.int .i64 0) (.slice none 0 0))
  go_wp2_with fail
  refine bodyPost_ret (v := .tuple #[.agg zfrm, .int .i64 (regE U V a b)]) (results_row_tmp rfl _ _ _ _ _ _ rfl rfl HBK.out Try.underlying39 rfl (by kernel_rfl)) rfl ?_
  exact ⟨rfl, below_set5 HS2.out.be (by omega) _ _ _ _ _⟩

set_option maxRecDepth 100000 in
set_option maxHeartbeats 2000000 in
theorem cut_place (X Y p q : Int) (n c : Nat) (A : Option Addr) (U V a b : Int) (w : World) (h1 : frmE X Y p q n = 0) (h2 : regE U V a b = 0) (h3 : inB U V a b X Y p q = false) :
    Calls Try.prog 33 #[frm X Y p q A n c, reg U V a b] w (ErrOut w 5) := by
  have g1 : (frmE X Y p q n != 0) = false := by simp [h1]
  have g2 : (regE U V a b != 0) = false := by simp [h2]
  have HSM := hid (small_of h2)
  have HSM2 := hid (small_of (frmE_zero h1).1)
  clear h1 h2
  have HS0 := hid (CSt.start w X Y p q U V a b n c A)
  go_enter Try.func33, Try.ntmps33
  go_wp2_with fail
  refine (check_any _ _ _ _ _ _ _ _).mono ?_
  rintro e w1 ⟨rfl, hb⟩
  have HS1 := hid (HS0.out.below hb)
  have c0 := HS1.out.r.cell 0
  have c1 := HS1.out.r.cell 1
  have c2 := HS1.out.r.cell 2
  have c3 := HS1.out.r.cell 3
  have z0 := HS1.out.z.cell 0
  have z1 := HS1.out.z.cell 1
  have z2 := HS1.out.z.cell 2
  have z3 := HS1.out.z.cell 3
  have z4 := HS1.out.z.cell 4
  have fz := fun i => HS1.out.z.frozen i
  simp at c0 c1 c2 c3 z0 z1 z2 z3 z4
  clear hb HS0
  go_wp2_with fail
  refine (checkRegion_any _ _ _ _ _).mono ?_
  rintro e w2 ⟨rfl, hb⟩
  have HS2 := hid (HS1.out.below hb)
  clear c0 c1 c2 c3 z0 z1 z2 z3 z4 fz hb HS1
  have c0 := HS2.out.r.cell 0
  have c1 := HS2.out.r.cell 1
  have c2 := HS2.out.r.cell 2
  have c3 := HS2.out.r.cell 3
  have d0 := HS2.out.f.cell 0
  have d1 := HS2.out.f.cell 1
  have d2 := HS2.out.f.cell 2
  have d3 := HS2.out.f.cell 3
  have d4 := HS2.out.f.cell 4
  have z0 := HS2.out.z.cell 0
  have z1 := HS2.out.z.cell 1
  have z2 := HS2.out.z.cell 2
  have z3 := HS2.out.z.cell 3
  have z4 := HS2.out.z.cell 4
  have fz := fun i => HS2.out.z.frozen i
  simp at c0 c1 c2 c3 d0 d1 d2 d3 d4 z0 z1 z2 z3 z4
  go_wp2_with fail
  refine (inside_any _ _ _ _ _ _ _ _ HSM.out HSM2.out _).mono ?_
  rintro e w3 ⟨rfl, hb⟩
  have HS3 := hid (HS2.out.below hb)
  clear c0 c1 c2 c3 d0 d1 d2 d3 d4 z0 z1 z2 z3 z4 fz hb HS2
  have c0 := HS3.out.r.cell 0
  have c1 := HS3.out.r.cell 1
  have c2 := HS3.out.r.cell 2
  have c3 := HS3.out.r.cell 3
  have d0 := HS3.out.f.cell 0
  have d1 := HS3.out.f.cell 1
  have d2 := HS3.out.f.cell 2
  have d3 := HS3.out.f.cell 3
  have d4 := HS3.out.f.cell 4
  have z0 := HS3.out.z.cell 0
  have z1 := HS3.out.z.cell 1
  have z2 := HS3.out.z.cell 2
  have z3 := HS3.out.z.cell 3
  have z4 := HS3.out.z.cell 4
  have fz := fun i => HS3.out.z.frozen i
  simp at c0 c1 c2 c3 d0 d1 d2 d3 d4 z0 z1 z2 z3 z4
  have HBK := hid (HS3.out.z.set5 (.int .i64 0) (.int .i64 0) (.int .i64 0) (.int .i64 0) (.slice none 0 0))
  go_wp2_with fail
  refine bodyPost_ret (v := .tuple #[.agg zfrm, .int .i64 5]) (results_row_tmp rfl _ _ _ _ _ _ rfl rfl HBK.out Try.underlying39 rfl (by kernel_rfl)) rfl ?_
  exact ⟨rfl, below_set5 HS3.out.be (by omega) _ _ _ _ _⟩

set_option maxRecDepth 100000 in
set_option maxHeartbeats 2000000 in
theorem cut_ok (X Y U V : Int) (p q n c a b m ei ej : Nat) (A : Option Addr) (F : Nat → Nat) (w : World) (h1 : frmE X Y p q n = 0) (h2 : regE U V a b = 0) (hU : U = X + ei) (hV : V = Y + ej) (hia : ei + a ≤ p) (hjb : ej + b ≤ q) (hm : m = 4 * (a * b)) (hnc : n ≤ c) (hcm : c ≤ maxLen) (hF : Src w A n F) :
    Calls Try.prog 33 #[frm X Y p q A n c, reg U V a b] w (FramedOk w U V a b m fun t => cl (F (4 * (p * (ej + t / 4 / a) + (ei + t / 4 % a)) + t % 4))) := by
  have g1 : (frmE X Y p q n != 0) = false := by simp [h1]
  have g2 : (regE U V a b != 0) = false := by simp [h2]
  have HSM := hid (small_of h2)
  obtain ⟨hr1, hn4⟩ := frmE_zero h1
  have HSM2 := hid (small_of hr1)
  have h3 : inB U V a b X Y p q = true := inB_true.2 ⟨by omega, by omega, by omega, by omega⟩
  obtain ⟨p1, p2, q1, q2, pq, x1, x2, y1, y2⟩ := regE_zero hr1
  obtain ⟨a1, a2, b1, b2, ab, u1, u2, v1, v2⟩ := regE_zero h2
  have hn : n = 4 * (p * q) := by
    rw [Int.mul_assoc] at hn4
    have : ((4 * (p * q) : Nat) : Int) = 4 * ((p : Int) * (q : Int)) := by push_cast; rfl
    omega
  have hab : 0 < a * b := Nat.mul_pos (by omega) (by omega)
  have hm2 : m ≤ 65536 := by
    have : ((a * b : Nat) : Int) = (a : Int) * (b : Int) := by push_cast; rfl
    omega
  obtain ⟨g, o, rfl, hlt, hrd⟩ := hF (by have : 0 < p * q := Nat.mul_pos (by omega) (by omega); omega)
  have HRD : RowKit.Hid (∀ wr, Below w.heap.size w wr → Rd wr g o n F) := hid fun wr h => hrd.below h hlt
  have HM := hid hm
  have HAR : RowKit.Hid (0 < a ∧ a ≤ 256 ∧ b ≤ 256 ∧ p ≤ 256 ∧ q ≤ 256 ∧ 0 < m ∧ m ≤ 65536) := hid ⟨by omega, by omega, by omega, by omega, by omega, by omega, hm2⟩
  have HX : RowKit.Hid (-1048576 ≤ X ∧ X ≤ 1048576 ∧ -1048576 ≤ U ∧ U ≤ 1048576 ∧ -1048576 ≤ V ∧ V ≤ 1048576) := hid ⟨by omega, by omega, by omega, by omega, by omega, by omega⟩
  have HU := hid (And.intro hU (And.intro hV (And.intro hia (And.intro hjb (And.intro hn (And.intro hnc hcm))))))
  clear h1 h2 hU hV hia hjb hn hn4 hm hF hrd hr1 pq ab hab
  have HS0 := hid (CSt.start w X Y p q U V a b n c (some ⟨g, o, none⟩))
  go_enter Try.func33, Try.ntmps33
  go_wp2_with fail
  refine (check_any _ _ _ _ _ _ _ _).mono ?_
  rintro e w1 ⟨rfl, hb⟩
  have HS1 := hid (HS0.out.below hb)
  have c0 := HS1.out.r.cell 0
  have c1 := HS1.out.r.cell 1
  have c2 := HS1.out.r.cell 2
  have c3 := HS1.out.r.cell 3
  have z0 := HS1.out.z.cell 0
  have z1 := HS1.out.z.cell 1
  have z2 := HS1.out.z.cell 2
  have z3 := HS1.out.z.cell 3
  have z4 := HS1.out.z.cell 4
  have fz := fun i => HS1.out.z.frozen i
  simp at c0 c1 c2 c3 z0 z1 z2 z3 z4
  clear hb HS0
  go_wp2_with fail
  refine (checkRegion_any _ _ _ _ _).mono ?_
  rintro e w2 ⟨rfl, hb⟩
  have HS2 := hid (HS1.out.below hb)
  clear c0 c1 c2 c3 z0 z1 z2 z3 z4 fz hb HS1
  have c0 := HS2.out.r.cell 0
  have c1 := HS2.out.r.cell 1
  have c2 := HS2.out.r.cell 2
  have c3 := HS2.out.r.cell 3
  have d0 := HS2.out.f.cell 0
  have d1 := HS2.out.f.cell 1
  have d2 := HS2.out.f.cell 2
  have d3 := HS2.out.f.cell 3
  have d4 := HS2.out.f.cell 4
  have z0 := HS2.out.z.cell 0
  have z1 := HS2.out.z.cell 1
  have z2 := HS2.out.z.cell 2
  have z3 := HS2.out.z.cell 3
  have z4 := HS2.out.z.cell 4
  have fz := fun i => HS2.out.z.frozen i
  simp at c0 c1 c2 c3 d0 d1 d2 d3 d4 z0 z1 z2 z3 z4
  go_wp2_with fail
  refine (inside_any _ _ _ _ _ _ _ _ HSM.out HSM2.out _).mono ?_
  rintro e w3 ⟨rfl, hb⟩
  have HS3 := hid (HS2.out.below hb)
  clear c0 c1 c2 c3 d0 d1 d2 d3 d4 z0 z1 z2 z3 z4 fz hb HS2
  have c0 := HS3.out.r.cell 0
  have c1 := HS3.out.r.cell 1
  have c2 := HS3.out.r.cell 2
  have c3 := HS3.out.r.cell 3
  have d0 := HS3.out.f.cell 0
  have d1 := HS3.out.f.cell 1
  have d2 := HS3.out.f.cell 2
  have d3 := HS3.out.f.cell 3
  have d4 := HS3.out.f.cell 4
  have z0 := HS3.out.z.cell 0
  have z1 := HS3.out.z.cell 1
  have z2 := HS3.out.z.cell 2
  have z3 := HS3.out.z.cell 3
  have z4 := HS3.out.z.cell 4
  have fz := fun i => HS3.out.z.frozen i
  simp at c0 c1 c2 c3 d0 d1 d2 d3 d4 z0 z1 z2 z3 z4
  go_wp2_with fail
  refine (blank_any U V a b m _ HM.out HAR.out.2.2.2.2.2.2 HAR.out.2.1).mono ?_
  rintro e w4 ⟨S, rfl, r3, hrow, hb⟩
  have HS4 := hid (HS3.out.below hb)
  have HBL := hid hb
  have HR3 := hid r3
  have HROW := hid hrow
  have HL3 := hid HS3.out.z.lt
  clear c0 c1 c2 c3 d0 d1 d2 d3 d4 z0 z1 z2 z3 z4 fz hb r3 hrow HS3
  have c0 := HS4.out.r.cell 0
  have c1 := HS4.out.r.cell 1
  have c2 := HS4.out.r.cell 2
  have c3 := HS4.out.r.cell 3
  have d0 := HS4.out.f.cell 0
  have d1 := HS4.out.f.cell 1
  have d2 := HS4.out.f.cell 2
  have d3 := HS4.out.f.cell 3
  have d4 := HS4.out.f.cell 4
  simp at c0 c1 c2 c3 d0 d1 d2 d3 d4
  have lr := HS4.out.r.lt
  have lf := HS4.out.f.lt
  go_wp2_with fail
  obtain ⟨e1, e2, e3, e4, e5, e6, e7⟩ := HU.out
  obtain ⟨i1, i2, i3, i4, i5, i6, i7⟩ := HAR.out
  obtain ⟨j1, j2, j3, j4, j5, j6⟩ := HX.out
  have k1 := HR3.out
  have k2 := HL3.out
  have hal : Below w4.heap.size w4 (w4.alloc (.cells #[.int .i64 U, .int .i64 V, .int .i64 a, .int .i64 b, .slice (some ⟨S, 0, none⟩) m m] 39)) := (Below.refl _ _).alloc (Nat.le_refl _) _
  have hpt : Blk (w4.alloc (.cells #[.int .i64 U, .int .i64 V, .int .i64 a, .int .i64 b, .slice (some ⟨S, 0, none⟩) m m] 39)) w4.heap.size 39 #[.int .i64 U, .int .i64 V, .int .i64 a, .int .i64 b, .slice (some ⟨S, 0, none⟩) m m] := Blk.new_at _ _ _ rfl
  have hSl := HROW.out.lt
  refine (transfer_any U V X Y U V a b m m S p q n c g o 0 0 ei ej a b (fun _ => 0) F _ (by simp) e1 (by simp) e2 i1 (by omega) (by omega) e3 e4 HM.out (Nat.le_refl _) (by unfold maxLen; omega) e5 e6 e7 i2 i3 i4 i5 j3 j4 j1 j2 j5 j6 (by simp; omega) (by omega) (rowIs_below HROW.out hal hSl) (HRD.out _ (below_to HS4.out.be hal))).mono ?_
  rintro e w5 ⟨rfl, hrow5, hgr⟩
  have hs5 := (HS4.out.below hal).grown (by omega) hgr
  have HP5 := hid (hpt.grown hgr (by simp; omega))
  have HS5 := hid hs5
  have HROW5 := hid hrow5
  clear c0 c1 c2 c3 d0 d1 d2 d3 d4 hal hpt hgr hrow5 hs5 HROW HS4 HBL e1 e2 e3 e4 e5 e6 e7
  have c0 := HP5.out.cell 0
  have c1 := HP5.out.cell 1
  have c2 := HP5.out.cell 2
  have c3 := HP5.out.cell 3
  have c4 := HP5.out.cell 4
  have z0 := HS5.out.z.cell 0
  have z1 := HS5.out.z.cell 1
  have z2 := HS5.out.z.cell 2
  have z3 := HS5.out.z.cell 3
  have z4 := HS5.out.z.cell 4
  simp at c0 c1 c2 c3 c4 z0 z1 z2 z3 z4
  have fz := fun i => HS5.out.z.frozen i
  have HBK := hid (HS5.out.z.set5 (.int .i64 U) (.int .i64 V) (.int .i64 a) (.int .i64 b) (.slice (some ⟨S, 0, none⟩) m m))
  go_wp2_with fail
  refine bodyPost_ret (v := .tuple #[frm U V a b (some ⟨S, 0, none⟩) m m, .int .i64 0]) (results_row_tmp rfl _ _ _ _ _ _ rfl rfl HBK.out Try.underlying39 rfl (by kernel_rfl)) rfl ?_
  have hl5 := HROW5.out.lt
  refine ⟨S, m, rfl, Nat.le_refl _, by unfold maxLen; omega, by omega, by rw [size_set5]; exact hl5, ?_, below_set5 HS5.out.be (by omega) _ _ _ _ _⟩
  intro i hi
  have hrd : Rd w5 S 0 m (fun t => cl (F (4 * (p * (ej + t / 4 / a) + (ei + t / 4 % a)) + t % 4))) := fun t ht => by
    rw [Nat.zero_add, HROW5.out.cell ht, trF_cut _ F a p ei ej i1 b t (by rw [← HM.out]; exact ht)]
  exact hrd.far5 (by omega) _ _ _ _ _ i hi
end Go.Proofs.Ytjlghjblpbckfaa
