/-
  A frame beside itself: differences, the greatest, the mean, steps.
-/
import Derived.Test.YtcklpmjeimjgmaaWApt
import Derived.Test.YtcklpmjeimjgmaaWChg
import Derived.Test.YtcklpmjeimjgmaaFLike
import Derived.Deep.DeepCutAuto
import Derived.Deep.RegionWith
namespace Go.Proofs.Ytcklpmjeimjgmaa
open Go.RowKit Go.Shelf
attribute [local go_sem] run_store_float

theorem below_drawn' {B : Nat} {w w1 w2 : World} (h : Below B w w1) (d : Drawn w1 w2) : Below B w w2 := by
  obtain ⟨k, rfl⟩ := d.ex
  exact below_drewN h k

/-- The boxes of both frames. -/
structure SB (X Y : Int) (p q n c d : Nat) (A B : Option Addr) (w wr : World) : Prop where
  a : Blk wr w.heap.size 26 #[.int .i64 X, .int .i64 Y, .int .i64 p, .int .i64 q, .slice A n c]
  b : Blk wr (w.heap.size + 1) 26 #[.int .i64 X, .int .i64 Y, .int .i64 p, .int .i64 q, .slice B n d]
  be : Below w.heap.size w wr
theorem SB.below {X Y : Int} {p q n c d : Nat} {A B : Option Addr} {w wr w1 : World} (h : SB X Y p q n c d A B w wr) (hb : Below wr.heap.size wr w1) : SB X Y p q n c d A B w w1 :=
  ⟨h.a.below hb h.a.lt, h.b.below hb h.b.lt, below_to h.be hb⟩
theorem SB.new (X Y : Int) (p q n c d : Nat) (A B : Option Addr) (w : World) : SB X Y p q n c d A B w ((w.alloc (.cells #[.int .i64 X, .int .i64 Y, .int .i64 p, .int .i64 q, .slice A n c] 26)).alloc (.cells #[.int .i64 X, .int .i64 Y, .int .i64 p, .int .i64 q, .slice B n d] 26)) :=
  ⟨(Blk.new_at _ _ _ rfl).alloc _, Blk.new_at _ _ _ (by simp), ((Below.refl _ _).alloc (Nat.le_refl _) _).alloc (by simp) _⟩

set_option maxRecDepth 100000 in
set_option maxHeartbeats 2000000 in
theorem differences_self (X Y : Int) (p q n c : Nat) (A : Option Addr) (F : Nat → Nat) (w : World) (h : frmE X Y p q n = 0) (hn0 : 0 < n) (hn2 : n ≤ 256) (hF : Src w A n F) :
    Calls Try.prog 119 #[frm X Y p q A n c, frm X Y p q A n c] w fun e w' => ∃ gb, e = .returned (.tuple #[.slice (some ⟨gb, 0, none⟩) n n, .int .i64 0]) ∧ w.heap.size ≤ gb ∧ gb < w'.heap.size ∧ Rd w' gb 0 n (fun _ => 0) ∧ Below w.heap.size w w' := by
  have HH := hid h
  have HF := hid hF
  have hmk := run_make_row' (P := Try.prog) 24 27 (.float .f32 0) 4 Try.underlying24 info_f32 rfl .i64 .i64 n (by omega) (by omega)
  clear h hF
  go_enter Try.func119, Try.ntmps119
  go_wp2_with fail
  refine (checkBoth_ok _ _ _ _ _ _ _ _ _ _ HH.out).mono ?_
  rintro e w1 ⟨rfl, hb⟩
  have H1 := hid ((SB.new X Y p q n c c A A w).below hb)
  have a4 := H1.out.a.cell 4
  simp at a4
  have l1 := H1.out.a.lt
  have l2 := H1.out.b.lt
  clear hb
  go_wp2_with fail
  have H2 : RowKit.Hid (SB X Y p q n c c A A w (w1.alloc (.cells (madeCells #[.float .f32 0] n) 27))) := hid (H1.out.below ((Below.refl _ _).alloc (Nat.le_refl _) _))
  have HR : RowKit.Hid ((w1.alloc (.cells (madeCells #[.float .f32 0] n) 27)).rowIs w1.heap.size 27 n (fun _ => .float .f32 0)) := hid (rowIs_made_at _ _ _ _ rfl)
  have HLT : RowKit.Hid (w.heap.size + 1 < w1.heap.size) := hid H1.out.b.lt
  clear hmk a4 H1
  go_loopw [23] (fun i wr => ∃ t : Nat, t ≤ n ∧ i = .int .i64 t ∧ SB X Y p q n c c A A w wr ∧ wr.rowIs w1.heap.size 27 n (fun _ => .float .f32 0)) (fun i _ => n - (intOf i).toNat)
  case atStart => exact ⟨0, Nat.zero_le _, rfl, H2.out, HR.out⟩
  case round =>
    clear H2 HR
    obtain ⟨t, ht, rfl, hs, hr⟩ := hrel
    have HS := hid hs
    have HR := hid hr
    have b4 := hs.b.cell 4
    simp at b4
    by_cases hlt : t < n
    · obtain ⟨ba, oa, rfl, hba, hRa⟩ := HF.out hn0
      have hsrc : wr.cell? ⟨ba, oa + t, none⟩ = some (.float .f32 (F t)) := (hs.be.cell (p := ⟨ba, oa + t, none⟩) hba).trans (hRa t hlt)
      have hcl := hr.cell hlt
      have hfr := hr.frozen t
      clear hs hr hRa
      go_wp2_with (go_at_call 157; refine (difference_self _ _).mono ?_; rintro e w' ⟨rfl, rfl⟩)
      go_roundw
      case rel =>
        refine ⟨t + 1, by omega, by go_num, ?_, ?_⟩
        · have hl := HLT.out
          exact ⟨HS.out.a.far (by simp; omega) _, HS.out.b.far (by simp; omega) _, HS.out.be.setCell (by simp; omega) _⟩
        · exact World.rowIs.congr (HR.out.set t _) (fun i _ => by by_cases h : i = t <;> simp [h])
      case measure => simp [intOf]; omega
    · obtain rfl : t = n := by omega
      clear hs hr
      go_wp2_with fail
      go_ret2
      exact ⟨w1.heap.size, rfl, by have := HLT.out; omega, HR.out.lt, fun i hi => by rw [Nat.zero_add]; exact HR.out.cell hi, HS.out.be⟩

set_option maxRecDepth 100000 in
set_option maxHeartbeats 1000000 in
theorem mean_zeros (b n c : Nat) (w : World) (h1 : 1 ≤ n) (hn : n ≤ 256) (hnc : n ≤ c) (hcm : c ≤ maxLen) (hc : Rd w b 0 n (fun _ => 0)) :
    Calls Try.prog 110 #[.slice (some ⟨b, 0, none⟩) n c] w fun e w' => e = .returned (.tuple #[.float .f32 0, .int .i64 0]) ∧ Drawn w w' := by
  have HS := hid (sumn_all n (List.replicate n 0) b 0 c w (by simp) hnc hcm (fun i hi => by rw [List.length_replicate] at hi; rw [hc i hi]; simp))
  have hq : ∀ w, cl (fop .quo .f32 0 (floatOfInt .f32 (n : Int)) w) = 0 := fun w => by
    unfold cl
    rw [cn_fop]
    exact quo_zeros ⟨n, by omega⟩ h1
  have HQ := hid hq
  rw [sumC_zeros] at HS
  clear hc hnc hcm hq
  have z0 : ((n : Int) == 0) = false := by rw [beq_eq_false_iff_ne]; omega
  go_enter Try.func110, Try.ntmps110
  go_wp2_with fail
  refine HS.out.mono ?_
  rintro e w1 ⟨rfl, hd⟩
  clear HS
  go_wp2_with (go_at_call 122; refine (clean_any _ _).mono ?_; rintro e w' ⟨rfl, rfl⟩)
  go_ret2
  exact ⟨congrArg (fun z => Ending.returned (.tuple #[.float .f32 z, .int .i64 0])) (HQ.out w1), drawn_drewN hd _⟩

set_option maxRecDepth 100000 in
set_option maxHeartbeats 1000000 in
theorem mean_self (X Y : Int) (p q n c : Nat) (A : Option Addr) (F : Nat → Nat) (w : World) (h : frmE X Y p q n = 0) (hn0 : 0 < n) (hn2 : n ≤ 256) (hF : Src w A n F) :
    Calls Try.prog 46 #[frm X Y p q A n c, frm X Y p q A n c] w fun e w' => e = .returned (.tuple #[.float .f32 0, .int .i64 0]) ∧ Below w.heap.size w w' := by
  have HB := hid (SB.new X Y p q n c c A A w)
  have HD : RowKit.Hid (∀ wz, Below w.heap.size w wz → Calls Try.prog 119 #[frm X Y p q A n c, frm X Y p q A n c] wz fun e w' => ∃ gb, e = .returned (.tuple #[.slice (some ⟨gb, 0, none⟩) n n, .int .i64 0]) ∧ wz.heap.size ≤ gb ∧ gb < w'.heap.size ∧ Rd w' gb 0 n (fun _ => 0) ∧ Below wz.heap.size wz w') :=
    hid fun wz hz => differences_self X Y p q n c A F wz h hn0 hn2 (hF.below hz)
  clear h hF
  go_enter Try.func46, Try.ntmps46
  go_wp2_with fail
  refine (HD.out _ HB.out.be).mono ?_
  rintro e w1 ⟨gb, rfl, g1, g2, g3, hb⟩
  have HE := hid (below_to HB.out.be hb)
  have HM := hid (mean_zeros gb n n w1 hn0 hn2 (Nat.le_refl _) (by unfold maxLen; omega) g3)
  clear g1 g2 g3 hb HD
  go_wp2_with fail
  refine HM.out.mono ?_
  rintro e w2 ⟨rfl, hd⟩
  have HE2 := hid (below_drawn' HE.out hd)
  clear hd
  go_wp2_with fail
  go_ret2
  exact ⟨rfl, HE2.out⟩
end Go.Proofs.Ytcklpmjeimjgmaa
