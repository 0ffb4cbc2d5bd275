/-
  The law of Check, Take, Clean and Same.
-/
import Derived.Test.YtejcmlpbmoikfaaDoorFTake
import Derived.Test.YtejcmlpbmoikfaaDoorFErr
import Derived.Deep.DeepCutAuto
import Derived.Deep.CutBlock
import Derived.Deep.RegionWith
import Derived.Deep.RegionHeld3
namespace Go.Proofs.YtejcmlpbmoikfaaDoor
open Go.RowKit Go.Shelf
attribute [local go_sem] run_store_float

theorem eq_zpix (w : World) : (Op.equalIn 10000 32 (.agg zpix) (.agg zpix)).run Tryd.prog w = .ok true w := by
  kernel_rfl
/-- A world's predicate as a limb of a region's condition. -/
structure Kp (L : World → Prop) (wr : World) : Prop where
  out : L wr
theorem drew_below (w : World) : Below w.heap.size w w.drew := below_drewN (Below.refl _ _) 1
/-- The box of the law, and what its arguments read as. -/
structure CkSt (w : World) (X Y p q : Int) (n c : Nat) (A : Option Addr) (F : Nat → Nat) (B : Option Addr) (m : Nat) (G : Nat → Nat) (wr : World) : Prop where
  f : Blk wr w.heap.size 26 #[.int .i64 X, .int .i64 Y, .int .i64 p, .int .i64 q, .slice A n c]
  ff : Src wr A n F
  fs : Src wr B m G
  be : Below w.heap.size w wr
theorem CkSt.below {w wr w1 : World} {X Y p q : Int} {n c : Nat} {A : Option Addr} {F : Nat → Nat} {B : Option Addr} {m : Nat} {G : Nat → Nat} (h : CkSt w X Y p q n c A F B m G wr) (hb : Below wr.heap.size wr w1) : CkSt w X Y p q n c A F B m G w1 :=
  ⟨h.f.below hb h.f.lt, h.ff.below hb, h.fs.below hb, below_to h.be hb⟩

theorem take_both (B : Option Addr) (m d : Nat) (G : Nat → Nat) (hmd : m ≤ d) (hd : d ≤ maxLen) : ∃ (E : Int) (Q : Nat → Nat), (∀ w, Src w B m G → Calls Tryd.prog 7 #[.slice B m d] w (PixOut w E Q)) ∧ (m < 4 → E = 2 ∧ Q = fun _ => 0) ∧ (4 ≤ m → E = 0 ∧ Q = G) := by
  by_cases h : m < 4
  · exact ⟨2, fun _ => 0, fun w _ => take_short B m d w h, fun _ => ⟨rfl, rfl⟩, fun h2 => by omega⟩
  · exact ⟨0, G, fun w hG => take_long B m d G w (by omega) hmd hd hG, fun h2 => absurd h2 h, fun _ => ⟨rfl, rfl⟩⟩

set_option maxRecDepth 100000 in
set_option maxHeartbeats 4000000 in
theorem framesCheck_bad (X Y p q : Int) (n c : Nat) (A : Option Addr) (F : Nat → Nat) (B : Option Addr) (m d : Nat) (G : Nat → Nat) (w : World) (hnc : n ≤ c) (hcm : c ≤ maxLen) (hmd : m ≤ d) (hd : d ≤ maxLen)
    (hF : Src w A n F) (hG : Src w B m G) (h0 : ¬ frmE X Y p q n = 0) :
    Calls Tryd.prog 3 #[frm X Y p q A n c, .slice B m d] w fun e w' => e = .returned (.bool true) ∧ Below w.heap.size w w' := by
  have H0 := hid h0
  clear h0
  have HCB := hid fun w => clean_bad X Y p q n c A w H0.out
  have HAB := hid fun w => at_bad X Y p q 0 0 n c A w H0.out
  have HPB := hid fun w => print_bad X Y p q n c A w H0.out
  have HTB := hid fun w => total_bad X Y p q n c A w H0.out
  obtain ⟨wb, hwb⟩ : ∃ wb, wb = w.alloc (.cells #[.int .i64 X, .int .i64 Y, .int .i64 p, .int .i64 q, .slice A n c] 26) := ⟨_, rfl⟩
  have hbe : Below w.heap.size w wb := by rw [hwb]; exact (Below.refl _ _).alloc (Nat.le_refl _) _
  have HS0 : RowKit.Hid (CkSt w X Y p q n c A F B m G wb) := by
    refine hid ⟨?_, hF.below hbe, hG.below hbe, hbe⟩
    rw [hwb]; exact Blk.new_at _ _ _ rfl
  have HWB := hid hwb
  obtain ⟨E5, Q, hta, ht1, ht2⟩ := take_both B m d G hmd hd
  have HTA := hid hta
  have HT := hid (And.intro ht1 ht2)
  have HCM := hid (And.intro hnc hcm)
  clear hwb hbe hF hG hta ht1 ht2 hnc hcm hmd hd
  go_enter Tryd.func3, Tryd.ntmps3
  go_wp2_with fail
  rw [← HWB.out]
  refine (landed_any _).mono ?_
  rintro e w' ⟨rfl, rfl⟩
  clear HWB
  have a0 := HS0.out.f.cell 0
  have a1 := HS0.out.f.cell 1
  have a2 := HS0.out.f.cell 2
  have a3 := HS0.out.f.cell 3
  have a4 := HS0.out.f.cell 4
  simp at a0 a1 a2 a3 a4
  have la := HS0.out.f.lt
  go_wp2_with fail
  refine (frameError_any X Y p q A n c _).mono ?_
  rintro e w1 ⟨rfl, hb⟩
  have HS1 := hid (HS0.out.below hb)
  clear a0 a1 a2 a3 a4 la hb HS0
  have a0 := HS1.out.f.cell 0
  have a1 := HS1.out.f.cell 1
  have a2 := HS1.out.f.cell 2
  have a3 := HS1.out.f.cell 3
  have a4 := HS1.out.f.cell 4
  simp at a0 a1 a2 a3 a4
  have la := HS1.out.f.lt
  go_wp2_with fail
  refine (check_any X Y p q A n c _).mono ?_
  rintro e w2 ⟨rfl, hb⟩
  have HS2 := hid (HS1.out.below hb)
  clear a0 a1 a2 a3 a4 la hb HS1
  generalize hE : frmE X Y p q n = E at *
  have HE := hid hE
  clear hE
  have z1 : (E != E) = false := by simp
  have px := pix_cells Q
  go_wp2_with fail
  refine (HTA.out _ HS2.out.fs).mono ?_
  rintro e w3 ⟨rfl, hb⟩
  have hal : Below w3.heap.size w3 (w3.alloc (.cells (pixC Q) 32)) := (Below.refl _ _).alloc (Nat.le_refl _) _
  have hbp : Blk (w3.alloc (.cells (pixC Q) 32)) w3.heap.size 32 (pixC Q) := Blk.new_at _ _ _ rfl
  have HS4 := hid ((HS2.out.below hb).below hal)
  have HBP := hid hbp
  clear hal hbp hb HS2 HTA
  go_upto_block 0 with fail
  generalize hw4 : w3.alloc (.cells (pixC Q) 32) = w4 at *
  clear hw4
  generalize w3.heap.size = bp at *
  go_cut [] (fun wx => CkSt w X Y p q n c A F B m G wx)
  case first =>
    have p0 := HBP.out.cell 0
    have p1 := HBP.out.cell 1
    have p2 := HBP.out.cell 2
    have p3 := HBP.out.cell 3
    simp at p0 p1 p2 p3
    by_cases hm : m < 4
    · obtain ⟨e1, e2⟩ := HT.out.1 hm
      subst e1 e2
      have heq := fun w => eq_zpix w
      have z2 : (m : Int) < 4 := by omega
      clear hm px
      go_wp2_with fail
      go_meet
      case rel => exact HS4.out
    · obtain ⟨e1, e2⟩ := HT.out.2 (by omega)
      subst e1 e2
      obtain ⟨sb, so, rfl, hsl, hrd⟩ := HS4.out.fs (by omega)
      have HSR : RowKit.Hid (∀ wr, Src wr (some ⟨sb, so, none⟩) m Q → Rd wr sb so m Q) := hid fun wr h => by
        obtain ⟨b', o', e, _, hr⟩ := h (by omega)
        simp at e
        obtain ⟨rfl, rfl⟩ := e
        exact hr
      have z2 : ¬ (m : Int) < 4 := by omega
      have m0 : 0 < m := by omega
      have m1 : (1 : Int) < (m : Int) := by omega
      have m2 : (2 : Int) < (m : Int) := by omega
      have m3 : (3 : Int) < (m : Int) := by omega
      have HM := hid (show 4 ≤ m by omega)
      clear hm px p0 p1 p2 p3 hrd hsl
      go_wp2_with fail
      obtain ⟨L, HL⟩ : ∃ L : World → Prop, RowKit.Hid (∀ wr, L wr ↔ (CkSt w X Y p q n c A F (some ⟨sb, so, none⟩) m Q wr ∧ Blk wr bp 32 (pixC Q))) := ⟨_, hid fun _ => Iff.rfl⟩
      have HCE : RowKit.Hid (∀ wr, L wr → wr.cell? ⟨bp, 0, none⟩ = some (.float .f32 (Q 0)) ∧ wr.cell? ⟨bp, 1, none⟩ = some (.float .f32 (Q 1)) ∧ wr.cell? ⟨bp, 2, none⟩ = some (.float .f32 (Q 2)) ∧ wr.cell? ⟨bp, 3, none⟩ = some (.float .f32 (Q 3)) ∧ wr.cell? ⟨sb, so, none⟩ = some (.float .f32 (Q 0)) ∧ wr.cell? ⟨sb, so + 1, none⟩ = some (.float .f32 (Q 1)) ∧ wr.cell? ⟨sb, so + 2, none⟩ = some (.float .f32 (Q 2)) ∧ wr.cell? ⟨sb, so + 3, none⟩ = some (.float .f32 (Q 3)) ∧ Kp L wr) := hid fun wr h => by
        have hh := (HL.out wr).1 h
        exact ⟨hh.2.cell 0, hh.2.cell 1, hh.2.cell 2, hh.2.cell 3, (by have := HSR.out wr hh.1.fs 0 (by have := HM.out; omega); rwa [Nat.add_zero] at this), HSR.out wr hh.1.fs 1 (by have := HM.out; omega), HSR.out wr hh.1.fs 2 (by have := HM.out; omega), HSR.out wr hh.1.fs 3 (by have := HM.out; omega), ⟨h⟩⟩
      have HON : RowKit.Hid (∀ w1 w2 : World, Below w1.heap.size w1 w2 → (w1.cell? ⟨bp, 0, none⟩ = some (.float .f32 (Q 0)) ∧ w1.cell? ⟨bp, 1, none⟩ = some (.float .f32 (Q 1)) ∧ w1.cell? ⟨bp, 2, none⟩ = some (.float .f32 (Q 2)) ∧ w1.cell? ⟨bp, 3, none⟩ = some (.float .f32 (Q 3)) ∧ w1.cell? ⟨sb, so, none⟩ = some (.float .f32 (Q 0)) ∧ w1.cell? ⟨sb, so + 1, none⟩ = some (.float .f32 (Q 1)) ∧ w1.cell? ⟨sb, so + 2, none⟩ = some (.float .f32 (Q 2)) ∧ w1.cell? ⟨sb, so + 3, none⟩ = some (.float .f32 (Q 3)) ∧ Kp L w1) → w2.cell? ⟨bp, 0, none⟩ = some (.float .f32 (Q 0)) ∧ w2.cell? ⟨bp, 1, none⟩ = some (.float .f32 (Q 1)) ∧ w2.cell? ⟨bp, 2, none⟩ = some (.float .f32 (Q 2)) ∧ w2.cell? ⟨bp, 3, none⟩ = some (.float .f32 (Q 3)) ∧ w2.cell? ⟨sb, so, none⟩ = some (.float .f32 (Q 0)) ∧ w2.cell? ⟨sb, so + 1, none⟩ = some (.float .f32 (Q 1)) ∧ w2.cell? ⟨sb, so + 2, none⟩ = some (.float .f32 (Q 2)) ∧ w2.cell? ⟨sb, so + 3, none⟩ = some (.float .f32 (Q 3)) ∧ Kp L w2) := hid fun w1 w2 hb h => by
        have hh := (HL.out w1).1 h.2.2.2.2.2.2.2.2.out
        exact HCE.out w2 ((HL.out w2).2 (⟨hh.1.below hb, hh.2.below hb hh.2.lt⟩))
      have HST0 : RowKit.Hid (w4.drew.cell? ⟨bp, 0, none⟩ = some (.float .f32 (Q 0)) ∧ w4.drew.cell? ⟨bp, 1, none⟩ = some (.float .f32 (Q 1)) ∧ w4.drew.cell? ⟨bp, 2, none⟩ = some (.float .f32 (Q 2)) ∧ w4.drew.cell? ⟨bp, 3, none⟩ = some (.float .f32 (Q 3)) ∧ w4.drew.cell? ⟨sb, so, none⟩ = some (.float .f32 (Q 0)) ∧ w4.drew.cell? ⟨sb, so + 1, none⟩ = some (.float .f32 (Q 1)) ∧ w4.drew.cell? ⟨sb, so + 2, none⟩ = some (.float .f32 (Q 2)) ∧ w4.drew.cell? ⟨sb, so + 3, none⟩ = some (.float .f32 (Q 3)) ∧ Kp L w4.drew) := hid (HCE.out _ ((HL.out _).2 (⟨HS4.out.below (drew_below _), HBP.out.below (drew_below _) HBP.out.lt⟩)))
      clear HS4 HBP
      go_region_held3 (fun w' => w'.cell? ⟨bp, 0, none⟩ = some (.float .f32 (Q 0)) ∧ w'.cell? ⟨bp, 1, none⟩ = some (.float .f32 (Q 1)) ∧ w'.cell? ⟨bp, 2, none⟩ = some (.float .f32 (Q 2)) ∧ w'.cell? ⟨bp, 3, none⟩ = some (.float .f32 (Q 3)) ∧ w'.cell? ⟨sb, so, none⟩ = some (.float .f32 (Q 0)) ∧ w'.cell? ⟨sb, so + 1, none⟩ = some (.float .f32 (Q 1)) ∧ w'.cell? ⟨sb, so + 2, none⟩ = some (.float .f32 (Q 2)) ∧ w'.cell? ⟨sb, so + 3, none⟩ = some (.float .f32 (Q 3)) ∧ Kp L w') (first | exact HST0.out | exact HON.out _ _ (by assumption) (by assumption) | assumption)
        (first
          | (go_at_call 8; refine (exact_yes _ _ rfl _).mono ?_; rintro e wf ⟨rfl, rfl⟩))
      all_goals
        rename_i hH
        have HK := hid ((HL.out _).1 hH.2.2.2.2.2.2.2.2.out)
        clear hH
        go_wp2_with fail
        go_meet
        case rel => exact HK.out.1
  case rest =>
    have hst := hcut
    have HST := hid hst
    have a0 := hst.f.cell 0
    have a1 := hst.f.cell 1
    have a2 := hst.f.cell 2
    have a3 := hst.f.cell 3
    have a4 := hst.f.cell 4
    simp at a0 a1 a2 a3 a4
    have la := hst.f.lt
    clear hst hcut HS4 HBP
    go_wp2_with fail
    refine (HCB.out _).mono ?_
    rintro e w5 ⟨rfl, hb⟩
    have z5 : (E != 0) = true := by have := H0.out; simp [this]
    have z6 : (E == E) = true := by simp
    have HS5 := hid (HST.out.below hb)
    have hal : Below w5.heap.size w5 (w5.alloc (.cells zfrm 26)) := (Below.refl _ _).alloc (Nat.le_refl _) _
    have HS6 := hid ((HST.out.below hb).below hal)
    clear a0 a1 a2 a3 a4 la hb HST hal
    have a0 := HS5.out.f.cell 0
    have a1 := HS5.out.f.cell 1
    have a2 := HS5.out.f.cell 2
    have a3 := HS5.out.f.cell 3
    have a4 := HS5.out.f.cell 4
    simp at a0 a1 a2 a3 a4
    have la := HS5.out.f.lt
    go_wp2_with fail
    refine (HAB.out _).mono ?_
    rintro e w7 ⟨rfl, hb⟩
    have px0 := pix_cells fun _ => 0
    have hal : Below w7.heap.size w7 (w7.alloc (.cells zpix 32)) := (Below.refl _ _).alloc (Nat.le_refl _) _
    have HS7 := hid (HS6.out.below hb)
    have HS8 := hid ((HS6.out.below hb).below hal)
    clear a0 a1 a2 a3 a4 la hb hal HS5 HS6
    have a0 := HS7.out.f.cell 0
    have a1 := HS7.out.f.cell 1
    have a2 := HS7.out.f.cell 2
    have a3 := HS7.out.f.cell 3
    have a4 := HS7.out.f.cell 4
    simp at a0 a1 a2 a3 a4
    have la := HS7.out.f.lt
    go_wp2_with fail
    refine (HPB.out _).mono ?_
    rintro e w9 ⟨⟨s, rfl⟩, hb⟩
    have HS9 := hid (HS8.out.below hb)
    clear a0 a1 a2 a3 a4 la hb HS7 HS8
    have a0 := HS9.out.f.cell 0
    have a1 := HS9.out.f.cell 1
    have a2 := HS9.out.f.cell 2
    have a3 := HS9.out.f.cell 3
    have a4 := HS9.out.f.cell 4
    simp at a0 a1 a2 a3 a4
    have la := HS9.out.f.lt
    go_wp2_with fail
    refine (HTB.out _).mono ?_
    rintro e w10 ⟨rfl, hb⟩
    have HS10 := hid (HS9.out.below hb)
    clear a0 a1 a2 a3 a4 la hb HS9
    go_wp2_with fail
    go_ret
    exact ⟨rfl, HS10.out.be.alloc HS10.out.be.size _⟩

set_option maxRecDepth 100000 in
set_option maxHeartbeats 4000000 in
theorem framesCheck_ok (X Y : Int) (p q n c : Nat) (A : Option Addr) (F : Nat → Nat) (B : Option Addr) (m d : Nat) (G : Nat → Nat) (w : World) (hnc : n ≤ c) (hcm : c ≤ maxLen) (hmd : m ≤ d) (hd : d ≤ maxLen)
    (hF : Src w A n F) (hG : Src w B m G) (h0 : frmE X Y p q n = 0) :
    Calls Tryd.prog 3 #[frm X Y p q A n c, .slice B m d] w fun e w' => e = .returned (.bool true) ∧ Below w.heap.size w w' := by
  have H0 := hid h0
  clear h0
  obtain ⟨hr1, hn4⟩ := frmE_zero H0.out
  obtain ⟨p1, p2, q1, q2, pq, x1, x2, y1, y2⟩ := regE_zero hr1
  have hn : n = 4 * (p * q) := by
    rw [Int.mul_assoc] at hn4
    have : ((4 * (p * q) : Nat) : Int) = 4 * ((p : Int) * (q : Int)) := by push_cast; rfl
    omega
  have hn2 : n ≤ 65536 := by rw [Int.mul_assoc] at hn4; omega
  have HN2 := hid hn2
  have HCR : RowKit.Hid (∀ wr, Src wr A n F → Calls Tryd.prog 14 #[frm X Y p q A n c] wr (Framed wr X Y p q n fun t => cl (F t))) := hid fun wr h =>
    cleanr_any X Y p q n c A F wr hn hnc hcm hn2 (by omega) (by omega) (by omega) (by omega) (by omega) (by omega) (by omega) (by omega) h
  have HCO := hid fun w h => clean_ok X Y p q n c A F w H0.out h
  clear hr1 hn4 p1 p2 q1 q2 pq x1 x2 y1 y2 hn hn2
  obtain ⟨wb, hwb⟩ : ∃ wb, wb = w.alloc (.cells #[.int .i64 X, .int .i64 Y, .int .i64 p, .int .i64 q, .slice A n c] 26) := ⟨_, rfl⟩
  have hbe : Below w.heap.size w wb := by rw [hwb]; exact (Below.refl _ _).alloc (Nat.le_refl _) _
  have HS0 : RowKit.Hid (CkSt w X Y p q n c A F B m G wb) := by
    refine hid ⟨?_, hF.below hbe, hG.below hbe, hbe⟩
    rw [hwb]; exact Blk.new_at _ _ _ rfl
  have HWB := hid hwb
  obtain ⟨E5, Q, hta, ht1, ht2⟩ := take_both B m d G hmd hd
  have HTA := hid hta
  have HT := hid (And.intro ht1 ht2)
  have HCM := hid (And.intro hnc hcm)
  clear hwb hbe hF hG hta ht1 ht2 hnc hcm hmd hd
  go_enter Tryd.func3, Tryd.ntmps3
  go_wp2_with fail
  rw [← HWB.out]
  refine (landed_any _).mono ?_
  rintro e w' ⟨rfl, rfl⟩
  clear HWB
  have a0 := HS0.out.f.cell 0
  have a1 := HS0.out.f.cell 1
  have a2 := HS0.out.f.cell 2
  have a3 := HS0.out.f.cell 3
  have a4 := HS0.out.f.cell 4
  simp at a0 a1 a2 a3 a4
  have la := HS0.out.f.lt
  go_wp2_with fail
  refine (frameError_any X Y p q A n c _).mono ?_
  rintro e w1 ⟨rfl, hb⟩
  have HS1 := hid (HS0.out.below hb)
  clear a0 a1 a2 a3 a4 la hb HS0
  have a0 := HS1.out.f.cell 0
  have a1 := HS1.out.f.cell 1
  have a2 := HS1.out.f.cell 2
  have a3 := HS1.out.f.cell 3
  have a4 := HS1.out.f.cell 4
  simp at a0 a1 a2 a3 a4
  have la := HS1.out.f.lt
  go_wp2_with fail
  refine (check_any X Y p q A n c _).mono ?_
  rintro e w2 ⟨rfl, hb⟩
  have HS2 := hid (HS1.out.below hb)
  clear a0 a1 a2 a3 a4 la hb HS1
  generalize hE : frmE X Y p q n = E at *
  have HE := hid hE
  clear hE
  have z1 : (E != E) = false := by simp
  have px := pix_cells Q
  go_wp2_with fail
  refine (HTA.out _ HS2.out.fs).mono ?_
  rintro e w3 ⟨rfl, hb⟩
  have hal : Below w3.heap.size w3 (w3.alloc (.cells (pixC Q) 32)) := (Below.refl _ _).alloc (Nat.le_refl _) _
  have hbp : Blk (w3.alloc (.cells (pixC Q) 32)) w3.heap.size 32 (pixC Q) := Blk.new_at _ _ _ rfl
  have HS4 := hid ((HS2.out.below hb).below hal)
  have HBP := hid hbp
  clear hal hbp hb HS2 HTA
  go_upto_block 0 with fail
  generalize hw4 : w3.alloc (.cells (pixC Q) 32) = w4 at *
  clear hw4
  generalize w3.heap.size = bp at *
  go_cut [] (fun wx => CkSt w X Y p q n c A F B m G wx)
  case first =>
    have p0 := HBP.out.cell 0
    have p1 := HBP.out.cell 1
    have p2 := HBP.out.cell 2
    have p3 := HBP.out.cell 3
    simp at p0 p1 p2 p3
    by_cases hm : m < 4
    · obtain ⟨e1, e2⟩ := HT.out.1 hm
      subst e1 e2
      have heq := fun w => eq_zpix w
      have z2 : (m : Int) < 4 := by omega
      clear hm px
      go_wp2_with fail
      go_meet
      case rel => exact HS4.out
    · obtain ⟨e1, e2⟩ := HT.out.2 (by omega)
      subst e1 e2
      obtain ⟨sb, so, rfl, hsl, hrd⟩ := HS4.out.fs (by omega)
      have HSR : RowKit.Hid (∀ wr, Src wr (some ⟨sb, so, none⟩) m Q → Rd wr sb so m Q) := hid fun wr h => by
        obtain ⟨b', o', e, _, hr⟩ := h (by omega)
        simp at e
        obtain ⟨rfl, rfl⟩ := e
        exact hr
      have z2 : ¬ (m : Int) < 4 := by omega
      have m0 : 0 < m := by omega
      have m1 : (1 : Int) < (m : Int) := by omega
      have m2 : (2 : Int) < (m : Int) := by omega
      have m3 : (3 : Int) < (m : Int) := by omega
      have HM := hid (show 4 ≤ m by omega)
      clear hm px p0 p1 p2 p3 hrd hsl
      go_wp2_with fail
      obtain ⟨L, HL⟩ : ∃ L : World → Prop, RowKit.Hid (∀ wr, L wr ↔ (CkSt w X Y p q n c A F (some ⟨sb, so, none⟩) m Q wr ∧ Blk wr bp 32 (pixC Q))) := ⟨_, hid fun _ => Iff.rfl⟩
      have HCE : RowKit.Hid (∀ wr, L wr → wr.cell? ⟨bp, 0, none⟩ = some (.float .f32 (Q 0)) ∧ wr.cell? ⟨bp, 1, none⟩ = some (.float .f32 (Q 1)) ∧ wr.cell? ⟨bp, 2, none⟩ = some (.float .f32 (Q 2)) ∧ wr.cell? ⟨bp, 3, none⟩ = some (.float .f32 (Q 3)) ∧ wr.cell? ⟨sb, so, none⟩ = some (.float .f32 (Q 0)) ∧ wr.cell? ⟨sb, so + 1, none⟩ = some (.float .f32 (Q 1)) ∧ wr.cell? ⟨sb, so + 2, none⟩ = some (.float .f32 (Q 2)) ∧ wr.cell? ⟨sb, so + 3, none⟩ = some (.float .f32 (Q 3)) ∧ Kp L wr) := hid fun wr h => by
        have hh := (HL.out wr).1 h
        exact ⟨hh.2.cell 0, hh.2.cell 1, hh.2.cell 2, hh.2.cell 3, (by have := HSR.out wr hh.1.fs 0 (by have := HM.out; omega); rwa [Nat.add_zero] at this), HSR.out wr hh.1.fs 1 (by have := HM.out; omega), HSR.out wr hh.1.fs 2 (by have := HM.out; omega), HSR.out wr hh.1.fs 3 (by have := HM.out; omega), ⟨h⟩⟩
      have HON : RowKit.Hid (∀ w1 w2 : World, Below w1.heap.size w1 w2 → (w1.cell? ⟨bp, 0, none⟩ = some (.float .f32 (Q 0)) ∧ w1.cell? ⟨bp, 1, none⟩ = some (.float .f32 (Q 1)) ∧ w1.cell? ⟨bp, 2, none⟩ = some (.float .f32 (Q 2)) ∧ w1.cell? ⟨bp, 3, none⟩ = some (.float .f32 (Q 3)) ∧ w1.cell? ⟨sb, so, none⟩ = some (.float .f32 (Q 0)) ∧ w1.cell? ⟨sb, so + 1, none⟩ = some (.float .f32 (Q 1)) ∧ w1.cell? ⟨sb, so + 2, none⟩ = some (.float .f32 (Q 2)) ∧ w1.cell? ⟨sb, so + 3, none⟩ = some (.float .f32 (Q 3)) ∧ Kp L w1) → w2.cell? ⟨bp, 0, none⟩ = some (.float .f32 (Q 0)) ∧ w2.cell? ⟨bp, 1, none⟩ = some (.float .f32 (Q 1)) ∧ w2.cell? ⟨bp, 2, none⟩ = some (.float .f32 (Q 2)) ∧ w2.cell? ⟨bp, 3, none⟩ = some (.float .f32 (Q 3)) ∧ w2.cell? ⟨sb, so, none⟩ = some (.float .f32 (Q 0)) ∧ w2.cell? ⟨sb, so + 1, none⟩ = some (.float .f32 (Q 1)) ∧ w2.cell? ⟨sb, so + 2, none⟩ = some (.float .f32 (Q 2)) ∧ w2.cell? ⟨sb, so + 3, none⟩ = some (.float .f32 (Q 3)) ∧ Kp L w2) := hid fun w1 w2 hb h => by
        have hh := (HL.out w1).1 h.2.2.2.2.2.2.2.2.out
        exact HCE.out w2 ((HL.out w2).2 (⟨hh.1.below hb, hh.2.below hb hh.2.lt⟩))
      have HST0 : RowKit.Hid (w4.drew.cell? ⟨bp, 0, none⟩ = some (.float .f32 (Q 0)) ∧ w4.drew.cell? ⟨bp, 1, none⟩ = some (.float .f32 (Q 1)) ∧ w4.drew.cell? ⟨bp, 2, none⟩ = some (.float .f32 (Q 2)) ∧ w4.drew.cell? ⟨bp, 3, none⟩ = some (.float .f32 (Q 3)) ∧ w4.drew.cell? ⟨sb, so, none⟩ = some (.float .f32 (Q 0)) ∧ w4.drew.cell? ⟨sb, so + 1, none⟩ = some (.float .f32 (Q 1)) ∧ w4.drew.cell? ⟨sb, so + 2, none⟩ = some (.float .f32 (Q 2)) ∧ w4.drew.cell? ⟨sb, so + 3, none⟩ = some (.float .f32 (Q 3)) ∧ Kp L w4.drew) := hid (HCE.out _ ((HL.out _).2 (⟨HS4.out.below (drew_below _), HBP.out.below (drew_below _) HBP.out.lt⟩)))
      clear HS4 HBP
      go_region_held3 (fun w' => w'.cell? ⟨bp, 0, none⟩ = some (.float .f32 (Q 0)) ∧ w'.cell? ⟨bp, 1, none⟩ = some (.float .f32 (Q 1)) ∧ w'.cell? ⟨bp, 2, none⟩ = some (.float .f32 (Q 2)) ∧ w'.cell? ⟨bp, 3, none⟩ = some (.float .f32 (Q 3)) ∧ w'.cell? ⟨sb, so, none⟩ = some (.float .f32 (Q 0)) ∧ w'.cell? ⟨sb, so + 1, none⟩ = some (.float .f32 (Q 1)) ∧ w'.cell? ⟨sb, so + 2, none⟩ = some (.float .f32 (Q 2)) ∧ w'.cell? ⟨sb, so + 3, none⟩ = some (.float .f32 (Q 3)) ∧ Kp L w') (first | exact HST0.out | exact HON.out _ _ (by assumption) (by assumption) | assumption)
        (first
          | (go_at_call 8; refine (exact_yes _ _ rfl _).mono ?_; rintro e wf ⟨rfl, rfl⟩))
      all_goals
        rename_i hH
        have HK := hid ((HL.out _).1 hH.2.2.2.2.2.2.2.2.out)
        clear hH
        go_wp2_with fail
        go_meet
        case rel => exact HK.out.1
  case rest =>
    have hst := hcut
    have HST := hid hst
    have a0 := hst.f.cell 0
    have a1 := hst.f.cell 1
    have a2 := hst.f.cell 2
    have a3 := hst.f.cell 3
    have a4 := hst.f.cell 4
    simp at a0 a1 a2 a3 a4
    have la := hst.f.lt
    clear hst hcut HS4 HBP
    go_wp2_with fail
    refine (HCO.out _ HST.out.ff).mono ?_
    rintro e w5 ⟨cb, cc, rfl, k1, k2, k3, k4, k5, hb⟩
    have e0 : E = 0 := H0.out
    have z5 : (E != 0) = false := by simp [e0]
    have hal : Below w5.heap.size w5 (w5.alloc (.cells #[.int .i64 X, .int .i64 Y, .int .i64 p, .int .i64 q, .slice (some ⟨cb, 0, none⟩) n cc] 26)) := (Below.refl _ _).alloc (Nat.le_refl _) _
    have hbc : Blk (w5.alloc (.cells #[.int .i64 X, .int .i64 Y, .int .i64 p, .int .i64 q, .slice (some ⟨cb, 0, none⟩) n cc] 26)) w5.heap.size 26 #[.int .i64 X, .int .i64 Y, .int .i64 p, .int .i64 q, .slice (some ⟨cb, 0, none⟩) n cc] := Blk.new_at _ _ _ rfl
    have HS6 := hid ((HST.out.below hb).below hal)
    have HFC6 := hid hbc
    have HSC6 := hid ((Src.of_rd k5 k4).below hal)
    clear a0 a1 a2 a3 a4 la hb hal hbc HST k1 k2 k3 k4 k5 e0
    go_wp2_with fail
    generalize hw6 : w5.alloc (.cells #[.int .i64 X, .int .i64 Y, .int .i64 p, .int .i64 q, .slice (some ⟨cb, 0, none⟩) n cc] 26) = w6 at *
    clear hw6
    generalize w5.heap.size = bc at *
    obtain ⟨L, HL⟩ : ∃ L : World → Prop, RowKit.Hid (∀ wr, L wr ↔ (CkSt w X Y p q n c A F B m G wr ∧ Blk wr bc 26 #[.int .i64 X, .int .i64 Y, .int .i64 p, .int .i64 q, .slice (some ⟨cb, 0, none⟩) n cc] ∧ Src wr (some ⟨cb, 0, none⟩) n (fun t => cl (F t)))) := ⟨_, hid fun _ => Iff.rfl⟩
    have HCE : RowKit.Hid (∀ wr, L wr → wr.cell? ⟨bc, 0, none⟩ = some (.int .i64 X) ∧ wr.cell? ⟨bc, 1, none⟩ = some (.int .i64 Y) ∧ wr.cell? ⟨bc, 2, none⟩ = some (.int .i64 p) ∧ wr.cell? ⟨bc, 3, none⟩ = some (.int .i64 q) ∧ wr.cell? ⟨bc, 4, none⟩ = some (.slice (some ⟨cb, 0, none⟩) n cc) ∧ wr.cell? ⟨w.heap.size, 0, none⟩ = some (.int .i64 X) ∧ wr.cell? ⟨w.heap.size, 1, none⟩ = some (.int .i64 Y) ∧ wr.cell? ⟨w.heap.size, 2, none⟩ = some (.int .i64 p) ∧ wr.cell? ⟨w.heap.size, 3, none⟩ = some (.int .i64 q) ∧ wr.cell? ⟨w.heap.size, 4, none⟩ = some (.slice A n c) ∧ Kp L wr) := hid fun wr h => by
      have hh := (HL.out wr).1 h
      exact ⟨hh.2.1.cell 0, hh.2.1.cell 1, hh.2.1.cell 2, hh.2.1.cell 3, hh.2.1.cell 4, hh.1.f.cell 0, hh.1.f.cell 1, hh.1.f.cell 2, hh.1.f.cell 3, hh.1.f.cell 4, ⟨h⟩⟩
    have HON : RowKit.Hid (∀ w1 w2 : World, Below w1.heap.size w1 w2 → (w1.cell? ⟨bc, 0, none⟩ = some (.int .i64 X) ∧ w1.cell? ⟨bc, 1, none⟩ = some (.int .i64 Y) ∧ w1.cell? ⟨bc, 2, none⟩ = some (.int .i64 p) ∧ w1.cell? ⟨bc, 3, none⟩ = some (.int .i64 q) ∧ w1.cell? ⟨bc, 4, none⟩ = some (.slice (some ⟨cb, 0, none⟩) n cc) ∧ w1.cell? ⟨w.heap.size, 0, none⟩ = some (.int .i64 X) ∧ w1.cell? ⟨w.heap.size, 1, none⟩ = some (.int .i64 Y) ∧ w1.cell? ⟨w.heap.size, 2, none⟩ = some (.int .i64 p) ∧ w1.cell? ⟨w.heap.size, 3, none⟩ = some (.int .i64 q) ∧ w1.cell? ⟨w.heap.size, 4, none⟩ = some (.slice A n c) ∧ Kp L w1) → w2.cell? ⟨bc, 0, none⟩ = some (.int .i64 X) ∧ w2.cell? ⟨bc, 1, none⟩ = some (.int .i64 Y) ∧ w2.cell? ⟨bc, 2, none⟩ = some (.int .i64 p) ∧ w2.cell? ⟨bc, 3, none⟩ = some (.int .i64 q) ∧ w2.cell? ⟨bc, 4, none⟩ = some (.slice (some ⟨cb, 0, none⟩) n cc) ∧ w2.cell? ⟨w.heap.size, 0, none⟩ = some (.int .i64 X) ∧ w2.cell? ⟨w.heap.size, 1, none⟩ = some (.int .i64 Y) ∧ w2.cell? ⟨w.heap.size, 2, none⟩ = some (.int .i64 p) ∧ w2.cell? ⟨w.heap.size, 3, none⟩ = some (.int .i64 q) ∧ w2.cell? ⟨w.heap.size, 4, none⟩ = some (.slice A n c) ∧ Kp L w2) := hid fun w1 w2 hb h => by
      have hh := (HL.out w1).1 h.2.2.2.2.2.2.2.2.2.2.out
      exact HCE.out w2 ((HL.out w2).2 (⟨hh.1.below hb, hh.2.1.below hb hh.2.1.lt, hh.2.2.below hb⟩))
    have HST0 : RowKit.Hid (w6.drew.cell? ⟨bc, 0, none⟩ = some (.int .i64 X) ∧ w6.drew.cell? ⟨bc, 1, none⟩ = some (.int .i64 Y) ∧ w6.drew.cell? ⟨bc, 2, none⟩ = some (.int .i64 p) ∧ w6.drew.cell? ⟨bc, 3, none⟩ = some (.int .i64 q) ∧ w6.drew.cell? ⟨bc, 4, none⟩ = some (.slice (some ⟨cb, 0, none⟩) n cc) ∧ w6.drew.cell? ⟨w.heap.size, 0, none⟩ = some (.int .i64 X) ∧ w6.drew.cell? ⟨w.heap.size, 1, none⟩ = some (.int .i64 Y) ∧ w6.drew.cell? ⟨w.heap.size, 2, none⟩ = some (.int .i64 p) ∧ w6.drew.cell? ⟨w.heap.size, 3, none⟩ = some (.int .i64 q) ∧ w6.drew.cell? ⟨w.heap.size, 4, none⟩ = some (.slice A n c) ∧ Kp L w6.drew) := hid (HCE.out _ ((HL.out _).2 (⟨HS6.out.below (drew_below _), HFC6.out.below (drew_below _) HFC6.out.lt, HSC6.out.below (drew_below _)⟩)))
    have HRC : RowKit.Hid (∀ wr, (wr.cell? ⟨bc, 0, none⟩ = some (.int .i64 X) ∧ wr.cell? ⟨bc, 1, none⟩ = some (.int .i64 Y) ∧ wr.cell? ⟨bc, 2, none⟩ = some (.int .i64 p) ∧ wr.cell? ⟨bc, 3, none⟩ = some (.int .i64 q) ∧ wr.cell? ⟨bc, 4, none⟩ = some (.slice (some ⟨cb, 0, none⟩) n cc) ∧ wr.cell? ⟨w.heap.size, 0, none⟩ = some (.int .i64 X) ∧ wr.cell? ⟨w.heap.size, 1, none⟩ = some (.int .i64 Y) ∧ wr.cell? ⟨w.heap.size, 2, none⟩ = some (.int .i64 p) ∧ wr.cell? ⟨w.heap.size, 3, none⟩ = some (.int .i64 q) ∧ wr.cell? ⟨w.heap.size, 4, none⟩ = some (.slice A n c) ∧ Kp L wr) → Calls Tryd.prog 14 #[frm X Y p q A n c] wr (Framed wr X Y p q n fun t => cl (F t))) := hid fun wr h => HCR.out wr ((HL.out wr).1 h.2.2.2.2.2.2.2.2.2.2.out).1.ff
    have HSF : RowKit.Hid (∀ wr, (wr.cell? ⟨bc, 0, none⟩ = some (.int .i64 X) ∧ wr.cell? ⟨bc, 1, none⟩ = some (.int .i64 Y) ∧ wr.cell? ⟨bc, 2, none⟩ = some (.int .i64 p) ∧ wr.cell? ⟨bc, 3, none⟩ = some (.int .i64 q) ∧ wr.cell? ⟨bc, 4, none⟩ = some (.slice (some ⟨cb, 0, none⟩) n cc) ∧ wr.cell? ⟨w.heap.size, 0, none⟩ = some (.int .i64 X) ∧ wr.cell? ⟨w.heap.size, 1, none⟩ = some (.int .i64 Y) ∧ wr.cell? ⟨w.heap.size, 2, none⟩ = some (.int .i64 p) ∧ wr.cell? ⟨w.heap.size, 3, none⟩ = some (.int .i64 q) ∧ wr.cell? ⟨w.heap.size, 4, none⟩ = some (.slice A n c) ∧ Kp L wr) → ∀ (A2 : Option Addr) (c2 : Nat), Src wr A2 n (fun t => cl (F t)) → Calls Tryd.prog 13 #[frm X Y p q (some ⟨cb, 0, none⟩) n cc, frm X Y p q A2 n c2] wr fun e w' => e = .returned (.bool true) ∧ Below wr.heap.size wr w') := hid fun wr h A2 c2 hs => sameFrame_any X Y p q n cc c2 (some ⟨cb, 0, none⟩) A2 (fun t => cl (F t)) (fun t => cl (F t)) wr HN2.out ((HL.out wr).1 h.2.2.2.2.2.2.2.2.2.2.out).2.2 hs fun _ _ => rfl
    have HSA : RowKit.Hid (∀ wr, (wr.cell? ⟨bc, 0, none⟩ = some (.int .i64 X) ∧ wr.cell? ⟨bc, 1, none⟩ = some (.int .i64 Y) ∧ wr.cell? ⟨bc, 2, none⟩ = some (.int .i64 p) ∧ wr.cell? ⟨bc, 3, none⟩ = some (.int .i64 q) ∧ wr.cell? ⟨bc, 4, none⟩ = some (.slice (some ⟨cb, 0, none⟩) n cc) ∧ wr.cell? ⟨w.heap.size, 0, none⟩ = some (.int .i64 X) ∧ wr.cell? ⟨w.heap.size, 1, none⟩ = some (.int .i64 Y) ∧ wr.cell? ⟨w.heap.size, 2, none⟩ = some (.int .i64 p) ∧ wr.cell? ⟨w.heap.size, 3, none⟩ = some (.int .i64 q) ∧ wr.cell? ⟨w.heap.size, 4, none⟩ = some (.slice A n c) ∧ Kp L wr) → Calls Tryd.prog 15 #[frm X Y p q A n c, frm X Y p q (some ⟨cb, 0, none⟩) n cc] wr fun e w' => e = .returned (.bool true) ∧ Below wr.heap.size wr w') := hid fun wr h => by
      have := same_yes X Y p q n c cc n A (some ⟨cb, 0, none⟩) F (fun t => cl (F t)) wr HN2.out ((HL.out wr).1 h.2.2.2.2.2.2.2.2.2.2.out).1.ff ((HL.out wr).1 h.2.2.2.2.2.2.2.2.2.2.out).2.2 (Nat.le_refl _) (fun i _ => (cl_cl (F i)).symm) (fun h => absurd h (Nat.lt_irrefl _))
      rwa [show decide (n = n) = true by simp] at this
    clear HS6 HFC6 HSC6 HCR
    go_region_held3 (fun w' => w'.cell? ⟨bc, 0, none⟩ = some (.int .i64 X) ∧ w'.cell? ⟨bc, 1, none⟩ = some (.int .i64 Y) ∧ w'.cell? ⟨bc, 2, none⟩ = some (.int .i64 p) ∧ w'.cell? ⟨bc, 3, none⟩ = some (.int .i64 q) ∧ w'.cell? ⟨bc, 4, none⟩ = some (.slice (some ⟨cb, 0, none⟩) n cc) ∧ w'.cell? ⟨w.heap.size, 0, none⟩ = some (.int .i64 X) ∧ w'.cell? ⟨w.heap.size, 1, none⟩ = some (.int .i64 Y) ∧ w'.cell? ⟨w.heap.size, 2, none⟩ = some (.int .i64 p) ∧ w'.cell? ⟨w.heap.size, 3, none⟩ = some (.int .i64 q) ∧ w'.cell? ⟨w.heap.size, 4, none⟩ = some (.slice A n c) ∧ Kp L w') (first | exact HST0.out | exact HON.out _ _ (by assumption) (by assumption) | assumption)
      (first
        | (go_at_call 14; refine (HRC.out _ (by assumption)).mono ?_; rintro e wp ⟨b2, c2, rfl, _, _, _, h4, h5, hb⟩; have hs := Src.of_rd h5 h4; clear h4 h5)
        | (go_at_call 13; refine (HSF.out _ (by assumption) _ _ (by assumption)).mono ?_; rintro e ws ⟨rfl, hb⟩)
        | (go_at_call 15; refine (HSA.out _ (by assumption)).mono ?_; rintro e ws ⟨rfl, hb⟩))
    all_goals
      rename_i hH
      have HK := hid ((HL.out _).1 hH.2.2.2.2.2.2.2.2.2.2.out)
      clear hH
      go_wp2_with fail
      go_ret
      exact ⟨rfl, HK.out.1.be⟩

theorem framesCheck_any (X Y p q : Int) (n c : Nat) (A : Option Addr) (F : Nat → Nat) (B : Option Addr) (m d : Nat) (G : Nat → Nat) (w : World) (hnc : n ≤ c) (hcm : c ≤ maxLen) (hmd : m ≤ d) (hd : d ≤ maxLen)
    (hF : Src w A n F) (hG : Src w B m G) :
    Calls Tryd.prog 3 #[frm X Y p q A n c, .slice B m d] w fun e w' => e = .returned (.bool true) ∧ Below w.heap.size w w' := by
  by_cases h0 : frmE X Y p q n = 0
  · obtain ⟨p1, _, q1, _⟩ := regE_zero (frmE_zero h0).1
    obtain ⟨p', rfl⟩ := Int.eq_ofNat_of_zero_le (show 0 ≤ p by omega)
    obtain ⟨q', rfl⟩ := Int.eq_ofNat_of_zero_le (show 0 ≤ q by omega)
    exact framesCheck_ok X Y p' q' n c A F B m d G w hnc hcm hmd hd hF hG h0
  · exact framesCheck_bad X Y p q n c A F B m d G w hnc hcm hmd hd hF hG h0
end Go.Proofs.YtejcmlpbmoikfaaDoor
