/-
  Sharpen of the program.
-/
import Derived.Test.YthoiiccecneefaaQSc
import Derived.Test.YthoiiccecneefaaQEpx
import Derived.Test.YthoiiccecneefaaQVp
import Derived.Test.YthoiiccecneefaaFErr
namespace Go.Proofs.Ythoiiccecneefaa
open Go.RowKit Go.Shelf
attribute [local go_sem] run_store_float

/-- The error of an amount and a least difference. -/
def shE (am le : Nat) : Int := if (fin am && fin le) = true then (if (wiB am 0 1098907648 && !(FloatKind.f32.format.order le 0 == some .lt)) = true then 0 else 3) else 2
/-- What stands in the boxes of Sharpen. -/
structure HS (X Y p q : Int) (n c am le : Nat) (A : Option Addr) (w wr : World) : Prop where
  fr : Blk wr w.heap.size 26 #[.int .i64 X, .int .i64 Y, .int .i64 p, .int .i64 q, .slice A n c]
  am : Blk wr (w.heap.size + 1) 40 #[.float .f32 am]
  le : Blk wr (w.heap.size + 1 + 1) 40 #[.float .f32 le]
  rs : Blk wr (w.heap.size + 1 + 1 + 1) 26 zfrm
  be : Below w.heap.size w wr
theorem HS.below {X Y p q : Int} {n c am le : Nat} {A : Option Addr} {w wr w1 : World} (h : HS X Y p q n c am le A w wr) (hb : Below wr.heap.size wr w1) : HS X Y p q n c am le A w w1 :=
  ⟨h.fr.below hb h.fr.lt, h.am.below hb h.am.lt, h.le.below hb h.le.lt, h.rs.below hb h.rs.lt, below_to h.be hb⟩
theorem HS.new (X Y p q : Int) (n c am le : Nat) (A : Option Addr) (w : World) :
    HS X Y p q n c am le A w ((((w.alloc (.cells #[.int .i64 X, .int .i64 Y, .int .i64 p, .int .i64 q, .slice A n c] 26)).alloc (.cells #[.float .f32 am] 40)).alloc (.cells #[.float .f32 le] 40)).alloc (.cells zfrm 26)) :=
  ⟨(((Blk.new_at _ _ _ rfl).alloc _).alloc _).alloc _, ((Blk.new_at _ _ _ (by simp)).alloc _).alloc _, (Blk.new_at _ _ _ (by simp)).alloc _, Blk.new_at _ _ _ (by simp), ((((Below.refl _ _).alloc (Nat.le_refl _) _).alloc (by simp) _).alloc (by simp; omega) _).alloc (by simp; omega) _⟩
theorem areTwo_any (b u v : Nat) {t : TypeId} (w : World) (h : Blk w b t #[.float .f32 u, .float .f32 v]) : Calls Try.prog 74 #[.slice (some ⟨b, 0, none⟩) 2 2] w fun e w' => e = .returned (.bool (fin u && fin v)) ∧ w = w' := by
  have h1 := areNumbers_any b 0 2 2 (fun k => if k = 0 then u else v) w (by omega) (fun i hi => by
    have : i = 0 ∨ i = 1 := by omega
    rcases this with rfl | rfl
    · exact h.cell 0
    · exact h.cell 1)
  rwa [two_numbers] at h1

set_option maxRecDepth 100000 in
set_option maxHeartbeats 4000000 in
theorem sharpen_frame (X Y p q : Int) (n c am le : Nat) (A : Option Addr) (w : World) (h : ¬ frmE X Y p q n = 0) :
    Calls Try.prog 33 #[frm X Y p q A n c, .float .f32 am, .float .f32 le] w (ErrOut w (frmE X Y p q n)) := by
  have z9 : (frmE X Y p q n != 0) = true := by simp [h]
  clear h
  go_enter Try.func33, Try.ntmps33
  go_wp2_with fail
  refine (check_any _ _ _ _ _ _ _ _).mono ?_
  rintro e w1 ⟨rfl, hb⟩
  have H1 := hid ((HS.new X Y p q n c am le A w).below hb)
  clear hb
  have HR := H1
  have z0 := HR.out.rs.cell 0
  have z1 := HR.out.rs.cell 1
  have z2 := HR.out.rs.cell 2
  have z3 := HR.out.rs.cell 3
  have z4 := HR.out.rs.cell 4
  have fz := fun i => HR.out.rs.frozen i
  simp at z0 z1 z2 z3 z4
  have HBK := hid (HR.out.rs.set5 (.int .i64 0) (.int .i64 0) (.int .i64 0) (.int .i64 0) (.slice none 0 0))
  have HBE := hid HR.out.be
  go_wp2_with fail
  refine bodyPost_ret (v := .tuple #[.agg zfrm, .int .i64 (frmE X Y p q n)]) (results_row_tmp rfl _ _ _ _ _ _ rfl rfl HBK.out Try.underlying26 rfl (by kernel_rfl)) rfl ?_
  exact ⟨rfl, below_set5 HBE.out (by omega) _ _ _ _ _⟩

set_option maxRecDepth 100000 in
set_option maxHeartbeats 4000000 in
theorem sharpen_form (X Y p q : Int) (n c am le : Nat) (A : Option Addr) (w : World) (h : frmE X Y p q n = 0) (h1 : (fin am && fin le) = false) :
    Calls Try.prog 33 #[frm X Y p q A n c, .float .f32 am, .float .f32 le] w (ErrOut w (shE am le)) := by
  have z9 : (frmE X Y p q n != 0) = false := by simp [h]
  have HE : RowKit.Hid (shE am le = 2) := hid (by unfold shE; rw [if_neg (by rw [h1]; simp)])
  rw [HE.out]
  have HF := hid h1
  clear h HE h1
  go_enter Try.func33, Try.ntmps33
  go_wp2_with fail
  refine (check_any _ _ _ _ _ _ _ _).mono ?_
  rintro e w1 ⟨rfl, hb⟩
  have H1 := hid ((HS.new X Y p q n c am le A w).below hb)
  clear hb
  have m0 := H1.out.am.cell 0
  have l0 := H1.out.le.cell 0
  have lm := H1.out.am.lt
  have ll := H1.out.le.lt
  simp at m0 l0
  go_upto_region 5 with (go_at_call 74; refine (areTwo_any _ _ _ _ (Blk.new_at _ _ _ rfl)).mono ?_; rintro e w' ⟨rfl, rfl⟩; rw [HF.out])
  go_name_world wb hwb
  have HR : RowKit.Hid (HS X Y p q n c am le A w wb) := by
    show HS X Y p q n c am le A w wb
    rw [← hwb]
    exact H1.out.below ((Below.refl _ _).alloc (Nat.le_refl _) _)
  clear hwb H1 m0 l0 lm ll
  have z0 := HR.out.rs.cell 0
  have z1 := HR.out.rs.cell 1
  have z2 := HR.out.rs.cell 2
  have z3 := HR.out.rs.cell 3
  have z4 := HR.out.rs.cell 4
  have fz := fun i => HR.out.rs.frozen i
  simp at z0 z1 z2 z3 z4
  have HBK := hid (HR.out.rs.set5 (.int .i64 0) (.int .i64 0) (.int .i64 0) (.int .i64 0) (.slice none 0 0))
  have HBE := hid HR.out.be
  go_wp2_with fail
  refine bodyPost_ret (v := .tuple #[.agg zfrm, .int .i64 (2)]) (results_row_tmp rfl _ _ _ _ _ _ rfl rfl HBK.out Try.underlying26 rfl (by kernel_rfl)) rfl ?_
  exact ⟨rfl, below_set5 HBE.out (by omega) _ _ _ _ _⟩

set_option maxRecDepth 100000 in
set_option maxHeartbeats 4000000 in
theorem sharpen_range (X Y p q : Int) (n c am le : Nat) (A : Option Addr) (w : World) (h : frmE X Y p q n = 0) (h1 : (fin am && fin le) = true) (h2 : (wiB am 0 1098907648 && !(FloatKind.f32.format.order le 0 == some .lt)) = false) :
    Calls Try.prog 33 #[frm X Y p q A n c, .float .f32 am, .float .f32 le] w (ErrOut w (shE am le)) := by
  have z9 : (frmE X Y p q n != 0) = false := by simp [h]
  have HE : RowKit.Hid (shE am le = 3) := hid (by unfold shE; rw [if_pos h1, if_neg (by rw [h2]; simp)])
  rw [HE.out]
  have HF := hid h1
  clear h HE h1
  cases hw : wiB am 0 1098907648 <;> cases ho : (FloatKind.f32.format.order le 0 == some .lt) <;> rw [hw, ho] at h2
  all_goals
    first
      | (exact absurd h2 (by decide))
      | (clear h2
         go_enter Try.func33, Try.ntmps33
         go_wp2_with fail
         refine (check_any _ _ _ _ _ _ _ _).mono ?_
         rintro e w1 ⟨rfl, hb⟩
         have H1 := hid ((HS.new X Y p q n c am le A w).below hb)
         clear hb
         have m0 := H1.out.am.cell 0
         have l0 := H1.out.le.cell 0
         have lm := H1.out.am.lt
         have ll := H1.out.le.lt
         simp at m0 l0
         go_upto_region 7 with (first
           | (go_at_call 74; refine (areTwo_any _ _ _ _ (Blk.new_at _ _ _ rfl)).mono ?_; rintro e w' ⟨rfl, rfl⟩; rw [HF.out])
           | (go_at_call 75; refine (isWithin_any _ _ _ _).mono ?_; rintro e w' ⟨rfl, rfl⟩; rw [hw]))
         go_name_world wb hwb
         have HR : RowKit.Hid (HS X Y p q n c am le A w wb) := by
           show HS X Y p q n c am le A w wb
           rw [← hwb]
           exact H1.out.below ((Below.refl _ _).alloc (Nat.le_refl _) _)
         clear hwb H1 m0 l0 lm ll
         have z0 := HR.out.rs.cell 0
         have z1 := HR.out.rs.cell 1
         have z2 := HR.out.rs.cell 2
         have z3 := HR.out.rs.cell 3
         have z4 := HR.out.rs.cell 4
         have fz := fun i => HR.out.rs.frozen i
         simp at z0 z1 z2 z3 z4
         have HBK := hid (HR.out.rs.set5 (.int .i64 0) (.int .i64 0) (.int .i64 0) (.int .i64 0) (.slice none 0 0))
         have HBE := hid HR.out.be
         go_wp2_with fail
         refine bodyPost_ret (v := .tuple #[.agg zfrm, .int .i64 (3)]) (results_row_tmp rfl _ _ _ _ _ _ rfl rfl HBK.out Try.underlying26 rfl (by kernel_rfl)) rfl ?_
         exact ⟨rfl, below_set5 HBE.out (by omega) _ _ _ _ _⟩)

set_option maxRecDepth 100000 in
set_option maxHeartbeats 4000000 in
theorem sharpen_ok (X Y : Int) (p q n c am le : Nat) (A : Option Addr) (F : Nat → Nat) (w : World) (hE : frmE X Y p q n = 0) (hS : shE am le = 0) (hnc : n ≤ c) (hcm : c ≤ maxLen) (hF : Src w A n F) :
    Calls Try.prog 33 #[frm X Y p q A n c, .float .f32 am, .float .f32 le] w fun e w' => ∃ g d, e = .returned (.tuple #[frm X Y p q (some ⟨g, 0, none⟩) n d, .int .i64 0]) ∧ Src w' (some ⟨g, 0, none⟩) n (gI (fun i j => shP F p q i j am le) p) ∧ Below w.heap.size w w' := by
  have z9 : (frmE X Y p q n != 0) = false := by simp [hE]
  have h1 : (fin am && fin le) = true := by
    cases h : (fin am && fin le) with
    | true => rfl
    | false => unfold shE at hS; rw [h] at hS; simp at hS
  have h2 : (wiB am 0 1098907648 && !(FloatKind.f32.format.order le 0 == some .lt)) = true := by
    cases h : (wiB am 0 1098907648 && !(FloatKind.f32.format.order le 0 == some .lt)) with
    | true => rfl
    | false => unfold shE at hS; rw [h1, h] at hS; simp at hS
  rw [Bool.and_eq_true] at h2
  have hw := h2.1
  have ho : (FloatKind.f32.format.order le 0 == some .lt) = false := by have := h2.2; simpa using this
  obtain ⟨hreg, hn4⟩ := frmE_zero hE
  obtain ⟨a1, a2, b1, b2, ab, x1, x2, y1, y2⟩ := regE_zero hreg
  have hn : n = 4 * (p * q) := by
    have e : 4 * (p : Int) * (q : Int) = ((4 * (p * q) : Nat) : Int) := by rw [Int.mul_assoc]; simp
    rw [e] at hn4
    exact_mod_cast hn4
  have hpq : p * q ≤ 16384 := by
    have e : (p : Int) * (q : Int) = ((p * q : Nat) : Int) := by simp
    rw [e] at ab
    omega
  have HEX : RowKit.Hid (∀ wz, HS X Y p q n c am le A w wz → Calls Try.prog 72 #[frm X Y p q A n c, .func (.func 82) #[] #[.pointer (some ⟨w.heap.size, 0, none⟩), .pointer (some ⟨w.heap.size + 1 + 1, 0, none⟩), .pointer (some ⟨w.heap.size + 1, 0, none⟩)]] wz (Framed wz X Y p q n (gI (fun i j => shP F p q i j am le) p))) :=
    hid fun wz hz => eachPixel_any 82 _ enters_sharp1 X Y p q n c A F (fun i j => shP F p q i j am le) wz hn (by omega) hnc hcm (by omega) (by omega) (by omega) (by omega) (by omega) (by omega) (by omega) (by omega) (hF.below hz.be) (fun i j w1 hi hj hb1 =>
      sharp1_any X Y p q n c i j am le w.heap.size (w.heap.size + 1 + 1) (w.heap.size + 1) A F w1 hi hj hn (by omega) (by omega) (by omega) (by omega) (by omega) (by omega) (by omega) (hF.below (below_to hz.be hb1)) (hz.fr.below hb1 hz.fr.lt) (hz.le.below hb1 hz.le.lt) (hz.am.below hb1 hz.am.lt))
  have hmf : ∀ (fn : Fn) (first cap : Array Value) (w : World), (Instr.makeFunc fn first cap).run Try.prog w = .ok (.func fn first cap) w := fun _ _ _ _ => rfl
  have HF1 := hid h1
  clear hE hreg hn4 hn hF hpq ab h1 h2 hS
  go_enter Try.func33, Try.ntmps33
  go_wp2_with fail
  refine (check_any _ _ _ _ _ _ _ _).mono ?_
  rintro e w1 ⟨rfl, hb⟩
  have H1 := hid ((HS.new X Y p q n c am le A w).below hb)
  clear hb
  have m0 := H1.out.am.cell 0
  have l0 := H1.out.le.cell 0
  have lm := H1.out.am.lt
  have ll := H1.out.le.lt
  simp at m0 l0
  go_upto_region 8 with (first
    | (go_at_call 74; refine (areTwo_any _ _ _ _ (Blk.new_at _ _ _ rfl)).mono ?_; rintro e w' ⟨rfl, rfl⟩; rw [HF1.out])
    | (go_at_call 75; refine (isWithin_any _ _ _ _).mono ?_; rintro e w' ⟨rfl, rfl⟩; rw [hw]))
  go_name_world wb hwb
  have HR : RowKit.Hid (HS X Y p q n c am le A w wb) := by
    show HS X Y p q n c am le A w wb
    rw [← hwb]
    exact H1.out.below ((Below.refl _ _).alloc (Nat.le_refl _) _)
  clear hwb H1 m0 l0 lm ll
  have f0 := HR.out.fr.cell 0
  have f1 := HR.out.fr.cell 1
  have f2 := HR.out.fr.cell 2
  have f3 := HR.out.fr.cell 3
  have f4 := HR.out.fr.cell 4
  simp at f0 f1 f2 f3 f4
  go_wp2_with fail
  refine (HEX.out _ HR.out).mono ?_
  rintro e w4 ⟨g, d, rfl, q1, q2, q3, q4, q5, q6⟩
  have H4 := HR.out.below q6
  have HBK := hid (H4.rs.set5 (.int .i64 X) (.int .i64 Y) (.int .i64 p) (.int .i64 q) (.slice (some ⟨g, 0, none⟩) n d))
  have u0 := H4.rs.cell 0
  have u1 := H4.rs.cell 1
  have u2 := H4.rs.cell 2
  have u3 := H4.rs.cell 3
  have u4 := H4.rs.cell 4
  have uf := fun i => H4.rs.frozen i
  simp at u0 u1 u2 u3 u4
  have HBE := hid H4.be
  have hs2 := HR.out.rs.lt
  have HQ5 := hid (And.intro q4 q5)
  clear H4 q4 q5 q6 HEX f0 f1 f2 f3 f4
  go_wp2_with fail
  refine bodyPost_ret (v := .tuple #[frm X Y p q (some ⟨g, 0, none⟩) n d, .int .i64 0]) (results_row_tmp rfl _ _ _ _ _ _ rfl rfl HBK.out Try.underlying26 rfl (by kernel_rfl)) rfl ?_
  exact ⟨g, d, rfl, Src.of_rd (HQ5.out.2.far5 (by omega) _ _ _ _ _) (by rw [size_set5]; exact HQ5.out.1), below_set5 HBE.out (by omega) _ _ _ _ _⟩
end Go.Proofs.Ythoiiccecneefaa
