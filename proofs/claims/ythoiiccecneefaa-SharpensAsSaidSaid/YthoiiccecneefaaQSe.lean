/-
  SharpOf of the reference, over the law's own function value.
-/
import Derived.Test.YthoiiccecneefaaQSc
import Derived.Deep.RegionHeld3
namespace Go.Proofs.Ythoiiccecneefaa
open Go.RowKit Go.Shelf
attribute [local go_sem] run_store_float

theorem enters_shAt (args : Array Value) (w : World) : (callFunc 36 args).run Try.prog w = .ok (.enter 36 args) w := enters_of Try.func36 (by kernel_rfl) rfl args w

set_option maxRecDepth 100000 in
set_option maxHeartbeats 4000000 in
theorem shAt_any (X Y x y : Int) (p q n c i j fb : Nat) (A : Option Addr) (F : Nat → Nat) (w : World) (hi : i < p) (hj : j < q) (hn : n = 4 * (p * q)) (hnc : n ≤ c) (hcm : c ≤ maxLen) (hn2 : n ≤ 65536)
    (hp2 : p ≤ 256) (hq2 : q ≤ 256) (x1 : -1048576 ≤ X) (x2 : X ≤ 1048576) (y1 : -1048576 ≤ Y) (y2 : Y ≤ 1048576)
    (hx : min (max x X) (X + p - 1) = X + i) (hy : min (max y Y) (Y + q - 1) = Y + j) (hF : Src w A n F) (hf : Blk w fb 26 #[.int .i64 X, .int .i64 Y, .int .i64 p, .int .i64 q, .slice A n c]) :
    Calls Try.prog 36 #[.int .i64 x, .int .i64 y, .pointer (some ⟨fb, 0, none⟩)] w fun e w' => e = .returned (.agg (pixA fun k => F (4 * (p * j + i) + k))) ∧ Below w.heap.size w w' := by
  have f0 := hf.cell 0
  have f1 := hf.cell 1
  have f2 := hf.cell 2
  have f3 := hf.cell 3
  have f4 := hf.cell 4
  have lf := hf.lt
  simp at f0 f1 f2 f3 f4
  have HP := hid (pixelAtG_any X Y x y p q n c i j A F (w.alloc (.cells zpx 47)) hi hj hn hnc hcm hn2 hp2 hq2 x1 x2 y1 y2 hx hy (hF.below ((Below.refl _ _).alloc (Nat.le_refl _) _)))
  obtain ⟨P, hP⟩ : ∃ P, P = fun k => F (4 * (p * j + i) + k) := ⟨_, rfl⟩
  rw [← hP] at HP ⊢
  clear hF hf hn hnc hcm hn2 hp2 hq2 x1 x2 y1 y2 hx hy hP hi hj
  go_enter Try.func36, Try.ntmps36
  go_wp2_with fail
  refine HP.out.mono ?_
  rintro e w1 ⟨rfl, hb⟩
  have hr := (Blk.new_at (b := w.heap.size) w 47 zpx rfl).below hb (by simp)
  have r0 := hr.cell 0
  have r1 := hr.cell 1
  have r2 := hr.cell 2
  have r3 := hr.cell 3
  have fz := fun i => hr.frozen i
  simp at r0 r1 r2 r3
  have HBK := hid (hr.set4 (.float .f32 (P 0)) (.float .f32 (P 1)) (.float .f32 (P 2)) (.float .f32 (P 3)))
  have HBE := hid (show Below w.heap.size w w1 from ((Below.refl _ _).alloc (Nat.le_refl _) _).trans (hb.mono (by simp)))
  clear hb hr f0 f1 f2 f3 f4
  rw [pix_cells P]
  go_wp2_with fail
  refine bodyPost_ret (v := .agg (pixA P)) (results_cell_row rfl _ _ _ _ _ _ _ rfl HBK.out Try.underlying47 rfl (by kernel_rfl)) rfl ⟨rfl, ?_⟩
  exact (((HBE.out.setCell (by simp) _).setCell (by simp) _).setCell (by simp) _).setCell (by simp) _

theorem pixA_get (P : Nat → Nat) (k : Nat) (hk : k < 4) : (pixA P)[k]? = some (.float .f32 (P k)) := by
  have : k = 0 ∨ k = 1 ∨ k = 2 ∨ k = 3 := by omega
  rcases this with h | h | h | h <;> subst h <;> rfl
/-- What the loop over the channels keeps. -/
structure SO (P G : Nat → Nat) (pb j : Nat) (w wr : World) : Prop where
  r : Blk wr w.heap.size 47 zpx
  p : Blk wr pb 47 (pixA P)
  q : Blk wr (pb + 1) 47 (pixA fun i => if i = 3 then cl (P 3) else if i < j then G i else 0)
  be : Below w.heap.size w wr
  lp : w.heap.size < pb
theorem SO.below {P G : Nat → Nat} {pb j : Nat} {w wr w1 : World} (h : SO P G pb j w wr) (hb : Below wr.heap.size wr w1) : SO P G pb j w w1 :=
  ⟨h.r.below hb h.r.lt, h.p.below hb h.p.lt, h.q.below hb h.q.lt, below_to h.be hb, h.lp⟩
theorem SO.step {P G : Nat → Nat} {pb j : Nat} {w wr : World} (h : SO P G pb j w wr) (hj : j < 3) {v : Nat} (hv : v = G j) : SO P G pb (j + 1) w (wr.setCell ⟨pb + 1, j, none⟩ (.float .f32 v)) := by
  subst hv
  have lp := h.lp
  refine ⟨h.r.far (by show _ ≠ pb + 1; omega) _, h.p.far (by show _ ≠ pb + 1; omega) _, ?_, h.be.setCell (by show _ ≤ pb + 1; omega) _, lp⟩
  have hq := (row4_of_blk (f := fun i => .float .f32 (if i = 3 then cl (P 3) else if i < j then G i else 0)) h.q).set j (.float .f32 (G j))
  refine blk_of_row4 (f := fun i => .float .f32 (if i = 3 then cl (P 3) else if i < j + 1 then G i else 0)) (World.rowIs.congr hq fun i hi => ?_)
  by_cases hi : i = j
  · subst hi
    simp [show ¬ i = 3 by omega]
  · by_cases h3 : i = 3
    · subst h3
      simp [show ¬ 3 = j by omega]
    · by_cases h2 : i < j
      · simp [hi, h3, h2, show i < j + 1 by omega]
      · simp [hi, h3, h2, show ¬ i < j + 1 by omega]

set_option maxRecDepth 100000 in
set_option maxHeartbeats 8000000 in
theorem sharpOf_any (X Y : Int) (p q n c i j am le fb : Nat) (A : Option Addr) (F : Nat → Nat) (w : World) (hi : i < p) (hj : j < q) (hn : n = 4 * (p * q)) (hnc : n ≤ c) (hcm : c ≤ maxLen) (hn2 : n ≤ 65536)
    (hp2 : p ≤ 256) (hq2 : q ≤ 256) (x1 : -1048576 ≤ X) (x2 : X + p ≤ 1048576) (y1 : -1048576 ≤ Y) (y2 : Y + q ≤ 1048576) (hF : Src w A n F) (hf : Blk w fb 26 #[.int .i64 X, .int .i64 Y, .int .i64 p, .int .i64 q, .slice A n c]) :
    Calls Try.prog 38 #[.func (.func 36) #[] #[.pointer (some ⟨fb, 0, none⟩)], .int .i64 (X + i), .int .i64 (Y + j), .float .f32 am, .float .f32 le] w fun e w' => e = .returned (.agg (pixA (shP F p q i j am le))) ∧ Below w.heap.size w w' := by
  have eAt := enters_shAt
  obtain ⟨P, hP⟩ : ∃ P, P = fun k => F (4 * (p * j + i) + k) := ⟨_, rfl⟩
  obtain ⟨G, hG⟩ : ∃ G, G = fun k => shC (nbr F p q i j k) (P k) am le := ⟨_, rfl⟩
  have HAT0 : RowKit.Hid (∀ wz, Below w.heap.size w wz → Calls Try.prog 36 #[.int .i64 (X + i), .int .i64 (Y + j), .pointer (some ⟨fb, 0, none⟩)] wz fun e w' => e = .returned (.agg (pixA P)) ∧ Below wz.heap.size wz w') := hid fun wz hb => by
    rw [hP]
    exact shAt_any X Y (X + i) (Y + j) p q n c i j fb A F wz hi hj hn hnc hcm hn2 hp2 hq2 x1 (by omega) y1 (by omega) (by omega) (by omega) (hF.below hb) (hf.below hb hf.lt)
  have HAT : RowKit.Hid (∀ (wz : World) (k : Nat), k < 9 → Below w.heap.size w wz → Calls Try.prog 36 #[.int .i64 (X + i - 1 + (k : Int) % 3), .int .i64 (Y + j - 1 + (k : Int) / 3), .pointer (some ⟨fb, 0, none⟩)] wz fun e w' => e = .returned (pix fun ch => nbr F p q i j ch k) ∧ Below wz.heap.size wz w') := hid fun wz k hk hb => by
    rw [show (k : Int) % 3 = ((k % 3 : Nat) : Int) by omega, show (k : Int) / 3 = ((k / 3 : Nat) : Int) by omega]
    exact shAt_any X Y _ _ p q n c (clN i (k % 3) p) (clN j (k / 3) q) fb A F wz (clN_lt (by omega)) (clN_lt (by omega)) hn hnc hcm hn2 hp2 hq2 x1 (by omega) y1 (by omega) (clN_ref hi) (clN_ref hj) (hF.below hb) (hf.below hb hf.lt)
  have HEND : RowKit.Hid (∀ (b : Nat) (wr : World), Blk wr b 47 (pixA fun i => if i = 3 then cl (P 3) else if i < 3 then G i else 0) → Blk wr b 47 (pixA (shP F p q i j am le))) := hid fun b wr h => by
    rw [hG, hP] at h
    exact h
  have HGG : RowKit.Hid (∀ k, G k = shC (nbr F p q i j k) (P k) am le) := hid fun k => by rw [hG]
  have HB1 : RowKit.Hid (-1048576 ≤ X + i ∧ X + i ≤ 1048576 ∧ -1048576 ≤ Y + j ∧ Y + j ≤ 1048576) := hid (by omega)
  obtain ⟨NB, hNB⟩ : ∃ NB : Nat → Nat → Nat, NB = fun ch k => nbr F p q i j ch k := ⟨_, rfl⟩
  have HNB : RowKit.Hid (∀ ch k, nbr F p q i j ch k = NB ch k) := hid fun ch k => by rw [hNB]
  have e1 : (fun (k : Nat) (ch : Nat) => nbr F p q i j ch k) = fun k ch => NB ch k := by rw [hNB]
  have HAT2 : RowKit.Hid (∀ (wz : World) (k : Nat), k < 9 → Below w.heap.size w wz → Calls Try.prog 36 #[.int .i64 (X + i - 1 + (k : Int) % 3), .int .i64 (Y + j - 1 + (k : Int) / 3), .pointer (some ⟨fb, 0, none⟩)] wz fun e w' => e = .returned (pix fun ch => NB ch k) ∧ Below wz.heap.size wz w') := hid fun wz k hk hb => by
    have h := HAT.out wz k hk hb
    rw [show (fun ch => nbr F p q i j ch k) = fun ch => NB ch k by rw [hNB]] at h
    exact h
  have HGG2 : RowKit.Hid (∀ k, G k = shC (NB k) (P k) am le) := hid fun k => by rw [HGG.out k, hNB]
  obtain ⟨Q, hQ⟩ : ∃ Q, Q = shP F p q i j am le := ⟨_, rfl⟩
  rw [← hQ] at HEND ⊢
  clear hP hG hNB e1 HAT HGG HNB hQ hi hj hn hnc hcm hn2 hp2 hq2 x1 x2 y1 y2 hF hf
  obtain ⟨x, hx⟩ : ∃ x, x = X + (i : Int) := ⟨_, rfl⟩
  obtain ⟨y, hy⟩ : ∃ y, y = Y + (j : Int) := ⟨_, rfl⟩
  rw [← hx, ← hy] at HAT0 HAT2 HB1 ⊢
  clear hx hy
  have b1 := HB1.out.1
  have b2 := HB1.out.2.1
  have b3 := HB1.out.2.2.1
  have b4 := HB1.out.2.2.2
  go_enter Try.func38, Try.ntmps38
  go_wp2_with fail
  refine (HAT0.out _ ((Below.refl _ _).alloc (Nat.le_refl _) _)).mono ?_
  rintro e w1 ⟨rfl, hb⟩
  have hr := (Blk.new_at (b := w.heap.size) w 47 zpx rfl).below hb (by simp)
  have hbe := (show Below w.heap.size w w1 from ((Below.refl _ _).alloc (Nat.le_refl _) _).trans (hb.mono (by simp)))
  have hlt : w.heap.size < w1.heap.size := hr.lt
  have HZ : RowKit.Hid (SO P G w1.heap.size 0 w ((w1.alloc (.cells (pixA P) 47)).alloc (.cells #[.float .f32 0, .float .f32 0, .float .f32 0, .float .f32 (cl (P 3))] 47))) :=
    hid ⟨(hr.alloc _).alloc _, (Blk.new_at _ _ _ rfl).alloc _, Blk.new_at _ _ _ (by simp), (hbe.alloc (by omega) _).alloc (by simp; omega) _, hlt⟩
  clear hb hr hbe
  go_wp2_with (go_at_call 42; refine (fix_any _ _).mono ?_; rintro e w' ⟨rfl, rfl⟩)
  generalize w1.heap.size = pb at *
  go_loopw [26] (fun i wr => ∃ j : Nat, j ≤ 3 ∧ i = .int .i64 j ∧ SO P G pb j w wr) (fun i _ => 3 - (intOf i).toNat)
  case atStart => exact ⟨0, by omega, rfl, HZ.out⟩
  case round =>
    clear HZ
    obtain ⟨j, hj, rfl, hr⟩ := hrel
    have HR := hid hr
    clear hr
    by_cases hj3 : j < 3
    · have j0 : (0 : Int) ≤ (j : Int) := by omega
      have j4 : (j : Int) < 4 := by omega
      have jd : decide ((j : Int) < 3) = true := decide_eq_true (by omega)
      have j3 : (j : Int) ≤ 2 := by omega
      go_wp2_with fail

      clear jd
      go_loopw [14, 29] (fun s i wx => ∃ k : Nat, k ≤ 9 ∧ i = .int .i64 k ∧ ∃ b, s = .float .f32 b ∧ (0 < k → cl b = smN (NB j) (k - 1)) ∧ SO P G pb j w wx) (fun _ i _ => 9 - (intOf i).toNat)
      case atStart => exact ⟨0, by omega, rfl, _, rfl, fun h => absurd h (by omega), HR.out⟩
      case round =>
        clear HR
        obtain ⟨k, hk, rfl, b, rfl, hbs, hr⟩ := hrel
        have HR := hid hr
        have HBS := hid hbs
        clear hr hbs
        by_cases hk9 : k < 9
        · have k0 : (0 : Int) ≤ (k : Int) := by omega
          have k1 : (k : Int) < 9 := by omega
          have hi : ∀ w, (Instr.index 47 (pix fun ch => NB ch k) (.int .i64 (j : Int))).run Try.prog w = .ok (.float .f32 (NB j k)) w := fun w => run_index_pix (fun ch => NB ch k) j (by omega) w
          go_wp2_with fail
          refine (HAT2.out _ k hk9 HR.out.be).mono ?_
          rintro e w2 ⟨rfl, hb⟩
          have H2 := hid (HR.out.below hb)
          clear hb HR
          by_cases hk0 : k = 0
          · subst hk0
            go_wp2_with fail
            go_roundw
            case rel => exact ⟨0 + 1, by omega, by go_num, _, rfl, fun _ => rfl, H2.out⟩
            case measure => simp [intOf]
          · have hkz : ((k : Int) == 0) = false := by rw [beq_eq_false_iff_ne]; omega
            have hkn : ¬ (k : Int) = 0 := by omega
            have hadd : ∀ w, cl (fop .add .f32 b (NB j k) w) = smN (NB j) k := fun w => by
              obtain ⟨t, rfl⟩ : ∃ t, k = t + 1 := ⟨k - 1, by omega⟩
              have hb0 := HBS.out (by omega)
              rw [Nat.add_sub_cancel] at hb0
              show cn .f32 _ = cop .add .f32 (smN (NB j) t) (NB j (t + 1))
              exact (cnf (a' := smN (NB j) t) (by rw [← hb0]; exact (cn_cn ..).symm) rfl).trans (cn_cop ..)
            have HAD := hid hadd
            clear hadd
            go_wp2_with fail
            go_roundw
            case rel => exact ⟨k + 1, by omega, by go_num, _, rfl, fun _ => by rw [Nat.add_sub_cancel]; exact HAD.out _, H2.out.below (below_drewN (Below.refl _ _) _)⟩
            case measure => simp [intOf]; omega
        · obtain rfl : k = 9 := by omega
          have hb9 := HBS.out (by omega)
          have pj : wr.cell? ⟨pb, j, none⟩ = some (.float .f32 (P j)) := by
            rw [HR.out.p.cell j]
            exact pixA_get P j (by omega)
          have HB9 : RowKit.Hid (cn .f32 b = cn .f32 (smN (NB j) 8)) := hid (by
            have h9 : cn .f32 b = smN (NB j) 8 := hb9
            rw [h9]
            exact (cl_smN _ _).symm)
          clear hb9 HBS HAT2 HAT0
          go_upto_region 16 with fail
          have HDL : RowKit.Hid (∀ w1 w2, fop .sub .f32 (P j) (fop .quo .f32 b 1091567616 w1) w2 < 4294967296) := hid fun w1 w2 => fop_lt ..
          generalize hdd : fop .sub .f32 (P j) (fop .quo .f32 b 1091567616 _) _ = d
          have HDL2 : RowKit.Hid (d < 4294967296) := by
            show d < 4294967296
            rw [← hdd]
            exact HDL.out _ _
          have HD : RowKit.Hid (cl d = cl (shD (NB j) (P j))) := by
            show cl d = cl (shD (NB j) (P j))
            rw [← hdd]
            unfold shD mnC
            show cn .f32 _ = cn .f32 _
            exact cnf rfl (cnf HB9.out rfl)
          clear hdd HB9 HDL
          go_name_world wq hwq
          have HQ : RowKit.Hid (SO P G pb j w wq) := by
            show SO P G pb j w wq
            rw [← hwq]
            exact HR.out.below (below_drewN (Below.refl _ _) _)
          clear hwq HR pj
          have pj : wq.cell? ⟨pb, j, none⟩ = some (.float .f32 (P j)) := by
            rw [HQ.out.p.cell j]
            exact pixA_get P j (by omega)
          have qj : wq.cell? ⟨pb + 1, j, none⟩ = some (.float .f32 (if j = 3 then cl (P 3) else if j < j then G j else 0)) := by
            rw [HQ.out.q.cell j]
            exact pixA_get (fun i => if i = 3 then cl (P 3) else if i < j then G i else 0) j (by omega)
          have qf := HQ.out.q.frozen j
          have lq := HQ.out.q.lt
          have lp := HQ.out.p.lt
          have HGJ := hid (HGG2.out j)
          have HM : RowKit.Hid ((FloatKind.f32.format.order (d % 2147483648) le == some .lt) = magB (shD (NB j) (P j)) le) := hid (magB_of rfl HD.out)
          cases hB : magB (shD (NB j) (P j)) le
          · have hm : (FloatKind.f32.format.order (d % 2147483648) le == some .lt) = false := by rw [HM.out, hB]
            have hadd : ∀ w1 w2, cl (fop .add .f32 (P j) (fop .mul .f32 d am w1) w2) = G j := fun w1 w2 => by
              rw [HGJ.out]
              unfold shC
              rw [if_neg (by rw [hB]; simp)]
              exact (cnf rfl (cnf (show cn .f32 d = cn .f32 (shD (NB j) (P j)) from HD.out) rfl)).trans (cn_cop ..)
            have HAD := hid hadd
            clear hadd hB HM HD
            go_wp2_with (first
              | (go_at_call 86; refine (absr_any _ HDL2.out _).mono ?_; rintro e w' ⟨rfl, rfl⟩)
              | (go_at_call 42; refine (fix_any _ _).mono ?_; rintro e w' ⟨rfl, rfl⟩))
            go_roundw
            case rel => exact ⟨j + 1, by omega, by go_num, (HQ.out.below (below_drewN (Below.refl _ _) _)).step hj3 (HAD.out _ _)⟩
            case measure => simp [intOf]; omega
          · have hm : (FloatKind.f32.format.order (d % 2147483648) le == some .lt) = true := by rw [HM.out, hB]
            have hcl : cl (P j) = G j := by
              rw [HGJ.out]
              unfold shC
              rw [if_pos hB]
            have HAD := hid hcl
            clear hcl hB HM HD
            go_wp2_with (first
              | (go_at_call 86; refine (absr_any _ HDL2.out _).mono ?_; rintro e w' ⟨rfl, rfl⟩)
              | (go_at_call 42; refine (fix_any _ _).mono ?_; rintro e w' ⟨rfl, rfl⟩))
            go_roundw
            case rel => exact ⟨j + 1, by omega, by go_num, HQ.out.step hj3 HAD.out⟩
            case measure => simp [intOf]; omega
    · obtain rfl : j = 3 := by omega
      have hq := HEND.out _ _ HR.out.q
      have q0 := hq.cell 0
      have q1 := hq.cell 1
      have q2 := hq.cell 2
      have q3 := hq.cell 3
      have r0 := HR.out.r.cell 0
      have r1 := HR.out.r.cell 1
      have r2 := HR.out.r.cell 2
      have r3 := HR.out.r.cell 3
      have fz := fun i => HR.out.r.frozen i
      have lr := HR.out.r.lt
      have lp := HR.out.lp
      simp at q0 q1 q2 q3 r0 r1 r2 r3
      have HRR := hid HR.out.r
      have HBE := hid HR.out.be
      clear hq HR HEND HGG2 HAT2 HAT0
      have HBK := hid (HRR.out.set4 (.float .f32 (Q 0)) (.float .f32 (Q 1)) (.float .f32 (Q 2)) (.float .f32 (Q 3)))
      go_wp2_with fail
      refine bodyPost_ret (v := .agg (pixA Q)) (results_cell_row rfl _ _ _ _ _ _ _ rfl HBK.out Try.underlying47 rfl (by kernel_rfl)) rfl ⟨rfl, ?_⟩
      exact (((HBE.out.setCell (by simp) _).setCell (by simp) _).setCell (by simp) _).setCell (by simp) _
end Go.Proofs.Ythoiiccecneefaa
