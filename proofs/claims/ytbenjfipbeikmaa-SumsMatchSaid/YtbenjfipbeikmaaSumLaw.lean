/-
  The law of sums, means and middles.
-/
import Derived.Test.YtbenjfipbeikmaaRankOf
namespace Go.Proofs.Ytbenjfipbeikmaa
open Go.RowKit

/-- The mean's bits. -/
def meanC (l : List Nat) (n : Nat) : Nat := cop .quo .f32 (sumC l) (cn .f32 (floatOfInt .f32 (n : Int)))

set_option maxRecDepth 100000 in
set_option maxHeartbeats 1000000 in
theorem mean_any (b off n c : Nat) (l : List Nat) (w : World) (hl : l.length = n) (h1 : 1 ≤ n) (hn : n ≤ 300) (hnc : n ≤ c) (hcm : c ≤ maxLen) (hc : Reads w b off l) :
    Calls Try.prog 50 #[.slice (some ⟨b, off, none⟩) n c] w fun e w' => e = .returned (.tuple #[.float .f32 (meanC l n), .int .i64 0]) ∧ Drawn w w' := by
  have HS := hid (sumn_all n l b off c w hl hnc hcm hc)
  clear hl hc hnc hcm
  have z0 : ((n : Int) == 0) = false := by rw [beq_eq_false_iff_ne]; omega
  go_enter Try.func50, Try.ntmps50
  go_wp2_with fail
  refine HS.out.mono ?_
  rintro e w1 ⟨rfl, hd⟩
  clear HS
  go_wp2_with (go_at_call 17; refine (clean_any _ _).mono ?_; rintro e w' ⟨rfl, rfl⟩)
  go_ret2
  have hm : ∀ w, cl (fop .quo .f32 (sumC l) (floatOfInt .f32 (n : Int)) w) = meanC l n := by
    intro w
    unfold cl meanC
    rw [cn_fop, cn_sumC]
  refine ⟨?_, drawn_drewN hd _⟩
  rw [← hm w1]; rfl

theorem mean_cl (l : List Nat) (n : Nat) (w : World) : cl (fop .quo .f32 (sumC l) (floatOfInt .f32 (n : Int)) w) = meanC l n := by
  unfold cl meanC
  rw [cn_fop, cn_sumC]

theorem below_drawn {B : Nat} {w w1 w2 : World} (h : Below B w w1) (d : Drawn w1 w2) : Below B w w2 := by
  obtain ⟨k, rfl⟩ := d.ex
  exact below_drewN h k

set_option maxRecDepth 100000 in
set_option maxHeartbeats 4000000 in
theorem sums_main (b off n c : Nat) (l : List Nat) (W : World) (hl : l.length = n) (h1 : 1 ≤ n) (hn : n ≤ 300) (hnc : n ≤ c) (hcm : c ≤ maxLen) (hv : ∀ x, x < n → l.getD x 0 < 4294967296) (hb : b < W.heap.size) (hc : Reads W b off l) :
    Calls Try.prog 10 #[.slice (some ⟨b, off, none⟩) n c] W fun e w' => e = .returned (.bool true) ∧ Below W.heap.size W w' := by
  have RD : RowKit.Hid (∀ w', Below W.heap.size W w' → Reads w' b off l) := hid fun w' h i hi => by rw [h.cell (p := ⟨b, off + i, none⟩) hb]; exact hc i hi
  have HV := hid hv
  have HL := hid hl
  have HCM := hid hcm
  clear hc hv hl hb hcm
  have z0 : ((n : Int) == 0) = false := by rw [beq_eq_false_iff_ne]; omega
  have z1 : ¬ (300 : Int) < (n : Int) := by omega
  go_enter Try.func10, Try.ntmps10
  go_wp2_with fail
  refine (mean_any b off n c l _ HL.out h1 hn hnc HCM.out (RD.out _ (Below.refl _ _))).mono ?_
  rintro e w1 ⟨rfl, d1⟩
  have K1 := hid (below_drawn (Below.refl W.heap.size W) d1)
  clear d1
  go_wp2_with fail
  refine (middle_any b off n c l w1 HL.out h1 hn HV.out (RD.out _ K1.out)).mono ?_
  rintro e w2 ⟨d2, rfl, hsh, hst, hbel⟩
  have K2 := hid (K1.out.trans (hbel.mono K1.out.size))
  have HSH := hid hsh
  have HST := hid hst
  clear hsh hst hbel
  obtain ⟨m, hm⟩ : ∃ m, m = (n - 1) / 2 := ⟨_, rfl⟩
  rw [← hm]
  have HM := hid hm
  clear hm
  have SN : RowKit.Hid (∀ w', Below W.heap.size W w' → Calls Try.prog 52 #[.slice (some ⟨b, off, none⟩) n c] w' fun e w'' => e = .returned (.float .f32 (sumC l)) ∧ Drawn w' w'') := hid fun w' h => sumn_all n l b off c w' HL.out hnc HCM.out (RD.out _ h)
  have SR : RowKit.Hid (∀ w', Below W.heap.size W w' → Calls Try.prog 53 #[.slice (some ⟨b, off, none⟩) n c] w' fun e w'' => e = .returned (.float .f32 (sumC l)) ∧ Drawn w' w'') := hid fun w' h => sumr_all n l b off c w' HL.out hnc HCM.out (RD.out _ h)
  have SM : RowKit.Hid (∀ w', Below W.heap.size W w' → Calls Try.prog 54 #[.slice (some ⟨b, off, none⟩) n c] w' fun e w'' => e = .returned (.float .f32 (cl (d2 m))) ∧ Drawn w' w'') := hid fun w' h => middler_any b off n c m (fun i => l.getD i 0) d2 w' h1 hn HM.out HV.out (fun x hx => by
    have := RD.out _ h x (by rw [HL.out]; exact hx)
    rw [this]; simp [List.getD, List.getElem?_eq_getElem (show x < l.length by rw [HL.out]; exact hx)]) HSH.out HST.out
  clear RD HSH HST HV HL HCM HM
  go_wp2_with fail
  refine (counts_any _).mono ?_
  rintro e w3 ⟨rfl, k3, rfl⟩
  have K3 := hid (below_drewN K2.out k3)
  clear K1 K2
  generalize w2.drewN k3 = w3 at K3 ⊢
  go_wp2_with fail
  refine (SN.out _ K3.out).mono ?_
  rintro e w4 ⟨rfl, d4⟩
  have K4 := hid (below_drawn K3.out d4)
  clear d4 K3
  go_wp2_with fail
  refine (SR.out _ K4.out).mono ?_
  rintro e w5 ⟨rfl, d5⟩
  have K5 := hid (below_drawn K4.out d5)
  clear d5 K4
  go_wp2_with fail
  refine (same_any _ _ _).mono ?_
  rintro e w6 ⟨rfl, rfl⟩
  have q1 : ((sumC l == sumC l) : Bool) = true := by simp
  go_wp2_with fail
  refine (SR.out _ K5.out).mono ?_
  rintro e w7 ⟨rfl, d7⟩
  have K7 := hid (below_drawn K5.out d7)
  clear d7 K5
  have q2 := mean_cl l n
  have q3 : ((meanC l n == meanC l n) : Bool) = true := by simp
  have q4 : ((cl (d2 m) == cl (d2 m)) : Bool) = true := by simp
  go_wp2_with fail
  refine (fix_any _ _).mono ?_
  rintro e w8 ⟨rfl, rfl⟩
  go_wp2_with fail
  refine (same_any _ _ _).mono ?_
  rintro e w9 ⟨rfl, rfl⟩
  have K9 := hid (below_drewN K7.out (fdr .quo .f32 (sumC l) (floatOfInt .f32 (n : Int))))
  generalize w7.drewN (fdr .quo .f32 (sumC l) (floatOfInt .f32 (n : Int))) = w9 at K9 ⊢
  go_wp2_with fail
  refine (SM.out _ K9.out).mono ?_
  rintro e w10 ⟨rfl, d10⟩
  have K10 := hid (below_drawn K9.out d10)
  clear d10 K9
  go_wp2_with fail
  refine (same_any _ _ _).mono ?_
  rintro e w11 ⟨rfl, rfl⟩
  go_wp2
  go_ret
  exact ⟨rfl, K10.out⟩

set_option maxRecDepth 100000 in
set_option maxHeartbeats 4000000 in
theorem sums_big (a : Option Addr) (n c : Nat) (W : World) (h : 300 < n) :
    Calls Try.prog 10 #[.slice a n c] W fun e w' => e = .returned (.bool true) ∧ Below W.heap.size W w' := by
  have z1 : (300 : Int) < (n : Int) := by omega
  go_enter Try.func10, Try.ntmps10
  go_wp2_with fail
  refine (counts_any _).mono ?_
  rintro e w3 ⟨rfl, k3, rfl⟩
  go_wp2
  go_ret
  exact ⟨rfl, below_drewN (Below.refl _ _) k3⟩

set_option maxRecDepth 100000 in
set_option maxHeartbeats 1000000 in
theorem mean_zero (a : Option Addr) (c : Nat) (w : World) :
    Calls Try.prog 50 #[.slice a 0 c] w fun e w' => e = .returned (.tuple #[.float .f32 0, .int .i64 10]) ∧ w = w' := by
  go_enter Try.func50, Try.ntmps50
  go_wp2
  go_ret2
  exact ⟨rfl, rfl⟩

set_option maxRecDepth 100000 in
set_option maxHeartbeats 1000000 in
theorem middle_zero (a : Option Addr) (c : Nat) (w : World) :
    Calls Try.prog 51 #[.slice a 0 c] w fun e w' => e = .returned (.tuple #[.float .f32 0, .int .i64 10]) ∧ w = w' := by
  go_enter Try.func51, Try.ntmps51
  go_wp2
  go_ret2
  exact ⟨rfl, rfl⟩

set_option maxRecDepth 100000 in
set_option maxHeartbeats 4000000 in
theorem sums_zero (a : Option Addr) (c : Nat) (W : World) :
    Calls Try.prog 10 #[.slice a 0 c] W fun e w' => e = .returned (.bool true) ∧ Below W.heap.size W w' := by
  go_enter Try.func10, Try.ntmps10
  go_wp2_with fail
  refine (mean_zero _ _ _).mono ?_
  rintro e w1 ⟨rfl, rfl⟩
  go_wp2_with fail
  refine (middle_zero _ _ _).mono ?_
  rintro e w2 ⟨rfl, rfl⟩
  go_wp2_with fail
  refine (counts_any _).mono ?_
  rintro e w3 ⟨rfl, k3, rfl⟩
  have K3 := hid (below_drewN (Below.refl W.heap.size W) k3)
  generalize W.drewN k3 = w3 at K3 ⊢
  go_wp2_with fail
  refine (sumn_nil _ _ _).mono ?_
  rintro e w4 ⟨rfl, d4⟩
  have K4 := hid (below_drawn K3.out d4)
  clear d4 K3
  go_wp2_with fail
  refine (sumr_nil _ _ _).mono ?_
  rintro e w5 ⟨rfl, d5⟩
  have K5 := hid (below_drawn K4.out d5)
  clear d5 K4
  go_wp2_with fail
  refine (same_any _ _ _).mono ?_
  rintro e w6 ⟨rfl, rfl⟩
  have q1 : ((sumC [] == sumC []) : Bool) = true := by simp
  have q2 : (FloatKind.f32.format.order 0 0 == some .eq) = true := by decide +kernel
  go_wp2
  go_ret
  exact ⟨rfl, K5.out⟩
end Go.Proofs.Ytbenjfipbeikmaa
