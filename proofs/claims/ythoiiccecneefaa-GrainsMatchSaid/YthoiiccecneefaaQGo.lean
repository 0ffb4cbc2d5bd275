/-
  Grain of the program where nothing is wrong.
-/
import Derived.Test.YthoiiccecneefaaQGf
import Derived.Test.YthoiiccecneefaaQEpx
namespace Go.Proofs.Ythoiiccecneefaa
open Go.RowKit Go.Shelf
attribute [local go_sem] run_store_float

set_option maxRecDepth 100000 in
set_option maxHeartbeats 4000000 in
theorem grain_ok (sd z : Int) (s f : Nat) (m : Bool) (num X Y : Int) (p q n c : Nat) (A : Option Addr) (F : Nat → Nat) (w : World) (hE : frmE X Y p q n = 0) (h1 : grE z s f = 0) (hnc : n ≤ c) (hcm : c ≤ maxLen) (hF : Src w A n F) :
    Calls Try.prog 18 #[frm X Y p q A n c, grn sd z s f m, .int .i64 num] w fun e w' => ∃ g d, e = .returned (.tuple #[frm X Y p q (some ⟨g, 0, none⟩) n d, .int .i64 0]) ∧ Src w' (some ⟨g, 0, none⟩) n (gI (fun i j => grp sd z num (X + i) (Y + j) s f m (fun k => F (4 * (p * j + i) + k))) p) ∧ Below w.heap.size w w' := by
  have z9 : (frmE X Y p q n != 0) = false := by simp [hE]
  have z8 : (grE z s f != 0) = false := by simp [h1]
  obtain ⟨hreg, hn4⟩ := frmE_zero hE
  obtain ⟨a1, a2, b1, b2, ab, x1, x2, y1, y2⟩ := regE_zero hreg
  have hn : n = 4 * (p * q) := by
    have e : 4 * (p : Int) * (q : Int) = ((4 * (p * q) : Nat) : Int) := by rw [Int.mul_assoc]; simp
    rw [e] at hn4
    exact_mod_cast hn4
  have hpq : p * q ≤ 16384 := by
    have e : (p : Int) * (q : Int) = ((p * q : Nat) : Int) := by simp
    rw [e] at ab
    omega
  have HEX : RowKit.Hid (∀ wz, HB sd z s f m num X Y p q n c A w wz → Calls Try.prog 72 #[frm X Y p q A n c, .func (.func 73) #[] #[.pointer (some ⟨w.heap.size + 1, 0, none⟩), .pointer (some ⟨w.heap.size + 1 + 1, 0, none⟩)]] wz (Framed wz X Y p q n (gI (fun i j => grp sd z num (X + i) (Y + j) s f m (fun k => F (4 * (p * j + i) + k))) p))) :=
    hid fun wz hz => eachPixel_any 73 _ enters_grain1 X Y p q n c A F (fun i j => grp sd z num (X + i) (Y + j) s f m (fun k => F (4 * (p * j + i) + k))) wz hn (by omega) hnc hcm (by omega) (by omega) (by omega) (by omega) (by omega) (by omega) (by omega) (by omega) (hF.below hz.be) (fun i j w1 hi hj hb1 =>
      grain1_any sd z num (X + i) (Y + j) s f (w.heap.size + 1) (w.heap.size + 1 + 1) m (fun k => F (4 * (p * j + i) + k)) w1 h1 (by omega) (by omega) (by omega) (by omega) (hz.gr.below hb1 hz.gr.lt) (hz.nm.below hb1 hz.nm.lt))
  have hmf : ∀ (fn : Fn) (first cap : Array Value) (w : World), (Instr.makeFunc fn first cap).run Try.prog w = .ok (.func fn first cap) w := fun _ _ _ _ => rfl
  clear hE hreg hn4 hn hF hpq ab h1
  go_enter Try.func18, Try.ntmps18
  go_wp2_with fail
  refine (check_any _ _ _ _ _ _ _ _).mono ?_
  rintro e w1 ⟨rfl, hb⟩
  have H1 := hid ((HB.new sd z s f m num X Y p q n c A w).below hb)
  have g0 := H1.out.gr.cell 0
  have g1 := H1.out.gr.cell 1
  have g2 := H1.out.gr.cell 2
  have g3 := H1.out.gr.cell 3
  have g4 := H1.out.gr.cell 4
  simp at g0 g1 g2 g3 g4
  clear hb
  go_wp2_with fail
  refine (checkGrain_any _ _ _ _ _ _).mono ?_
  rintro e w2 ⟨rfl, hb⟩
  have H2 := hid (H1.out.below hb)
  have f0 := H2.out.fr.cell 0
  have f1 := H2.out.fr.cell 1
  have f2 := H2.out.fr.cell 2
  have f3 := H2.out.fr.cell 3
  have f4 := H2.out.fr.cell 4
  simp at f0 f1 f2 f3 f4
  clear hb g0 g1 g2 g3 g4
  go_wp2_with fail
  refine (HEX.out _ H2.out).mono ?_
  rintro e w4 ⟨g, d, rfl, q1, q2, q3, q4, q5, q6⟩
  have H4 := H2.out.below q6
  have HBK := hid (H4.rs.set5 (.int .i64 X) (.int .i64 Y) (.int .i64 p) (.int .i64 q) (.slice (some ⟨g, 0, none⟩) n d))
  have u0 := H4.rs.cell 0
  have u1 := H4.rs.cell 1
  have u2 := H4.rs.cell 2
  have u3 := H4.rs.cell 3
  have u4 := H4.rs.cell 4
  have uf := fun i => H4.rs.frozen i
  simp at u0 u1 u2 u3 u4
  have HBE := hid H4.be
  have hs2 := H2.out.rs.lt
  have HQ5 := hid (And.intro q4 q5)
  clear H4 q4 q5 q6 HEX f0 f1 f2 f3 f4
  go_wp2_with fail
  refine bodyPost_ret (v := .tuple #[frm X Y p q (some ⟨g, 0, none⟩) n d, .int .i64 0]) (results_row_tmp rfl _ _ _ _ _ _ rfl rfl HBK.out Try.underlying26 rfl (by kernel_rfl)) rfl ?_
  exact ⟨g, d, rfl, Src.of_rd (HQ5.out.2.far5 (by omega) _ _ _ _ _) (by rw [size_set5]; exact HQ5.out.1), below_set5 HBE.out (by omega) _ _ _ _ _⟩
end Go.Proofs.Ythoiiccecneefaa
