/-
  The library's merge in place, at singles: the step.
-/
import Derived.Test.YtbenjfipbeikmaaSym
namespace Go.Proofs.Ytbenjfipbeikmaa
open Go.RowKit

set_option maxRecDepth 100000 in
set_option maxHeartbeats 4000000 in
theorem sym_hi (k : Nat) (ih : ∀ m, m < k → SymSaid m) (b off N cap A M B mid : Nat) (d : Nat → Nat) (w : World) (hk : B - A = k) (hc : Cells w b off N d) (hd : ∀ x, x < N → d x < 4294967296) (h1 : A + 1 < M) (h2 : M + 1 < B) (hB : B ≤ N) (hN : N ≤ 300) (hs1 : Srt d A M) (hs2 : Srt d M B)
    (hmid : ((A : Int) + (B : Int)) / 2 = (mid : Int)) (hgt : mid < M) :
    Calls Try.prog 110 #[.slice (some ⟨b, off, none⟩) N cap, .int .i64 (A : Int), .int .i64 (M : Int), .int .i64 (B : Int), theCmp] w
      (fun e w' => ∃ d', Turns b off N w d' e w' ∧ Shuf A B d d' ∧ Srt d' A B) := by
  have HC := hid hc; clear hc
  have HD := hid hd; clear hd
  have HS1 := hid hs1; clear hs1
  have HS2 := hid hs2; clear hs2
  have IH := hid ih; clear ih
  have HK := hid hk; clear hk
  unfold theCmp
  have b0 : ((M : Int) - (A : Int) == 1) = false := by rw [beq_eq_false_iff_ne]; omega
  have b1 : ((B : Int) - (M : Int) == 1) = false := by rw [beq_eq_false_iff_ne]; omega
  obtain ⟨nn, hnn⟩ : ∃ nn : Nat, (mid : Int) + (M : Int) = (nn : Int) := ⟨mid + M, by omega⟩
  obtain ⟨p, hp⟩ : ∃ p : Nat, (nn : Int) - 1 = (p : Int) := ⟨nn - 1, by omega⟩
  obtain ⟨s0, hs0⟩ : ∃ s0 : Nat, (nn : Int) - (B : Int) = (s0 : Int) := ⟨nn - B, by omega⟩
  have hgt' : (mid : Int) < (M : Int) := by omega
  go_enter Try.func110, Try.ntmps110
  go_wp2
  have HP : RowKit.Hid (s0 ≤ mid ∧ mid ≤ M ∧ A ≤ s0 ∧ p < B + s0 ∧ M + mid ≤ p + 1) := hid ⟨by omega, by omega, by omega, by omega, by omega⟩
  go_loopw [20, 21] (fun v u wr => ∃ (s r : Nat), RowKit.Hid (Srch d p s0 mid s r) ∧ v = .int .i64 (s : Int) ∧ u = .int .i64 (r : Int) ∧ RowKit.Hid (Cells wr b off N d) ∧ RowKit.Hid (Sort1 b w wr)) (fun v u _ => (intOf u - intOf v).toNat)
  case atStart => exact ⟨s0, mid, srch_start d p s0 mid HP.out.1, rfl, rfl, HC, sort1_refl b w⟩
  case round =>
    clear HC
    obtain ⟨s, r, hsr, rfl, rfl, hr, hw⟩ := hrel
    have z1 := hsr.out.a
    have z2 := hsr.out.b
    have z3 := hsr.out.c
    by_cases hlt : s < r
    · obtain ⟨c, hh⟩ : ∃ c, c = (s + r) / 2 := ⟨_, rfl⟩
      have hm1 : s ≤ c := by omega
      have hm2 : c < r := by omega
      have hc2 : ((s : Int) + (r : Int)) / 2 = (c : Int) := by omega
      clear hh
      obtain ⟨q, hq⟩ : ∃ q, q = p - c := ⟨_, rfl⟩
      have hq0 := HP.out
      have hq1 : (p : Int) - (c : Int) = (q : Int) := by omega
      have hq2 : M ≤ q := by omega
      have hq3 : q < B := by omega
      clear hq0
      have HQ := hid hq; clear hq
      have ca := hr.out.cell q (by omega)
      have cb := hr.out.cell c (by omega)
      have v1 := HD.out q (by omega)
      have v2 := HD.out c (by omega)
      have e5 : (0 : Int) ≤ (q : Int) := by omega
      have e6 : (0 : Int) ≤ (c : Int) := by omega
      have e7 : (q : Int) < (N : Int) := by omega
      have e8 : (c : Int) < (N : Int) := by omega
      have e9 : IntKind.i64.wrap (q : Int) = (q : Int) := by rw [IntKind.wrap_i64]; omega
      by_cases hk : kk (d q) < kk (d c)
      · have hk' : ckk (d q) (d c) < 0 := by rw [ckk_neg]; exact hk
        go_wp2
        go_quiet ((go_at_call 92; exact Calls.quiet_of_same (cmp_q _ _ v1 v2 _)))
        go_wp2
        go_roundw
        case rel => exact ⟨s, c, srch_down hsr.out HS1.out HS2.out HP.out.2.2.1 HP.out.2.1 HP.out.2.2.2.1 HP.out.2.2.2.2 hm1 hm2 (by rw [← HQ.out]; exact hk), rfl, rfl, cells_drewN hr.out _, sort1_drewN hw.out _⟩
        case measure => simp [intOf]; omega
      · have hk' : decide (ckk (d q) (d c) < 0) = false := decide_eq_false (by rw [ckk_neg]; exact hk)
        go_wp2
        go_quiet ((go_at_call 92; exact Calls.quiet_of_same (cmp_q _ _ v1 v2 _)))
        go_wp2
        go_roundw
        case rel => exact ⟨c + 1, r, srch_up hsr.out HS1.out HS2.out HP.out.2.2.1 HP.out.2.1 HP.out.2.2.2.1 HP.out.2.2.2.2 hm1 hm2 (by rw [← HQ.out]; omega), rfl, rfl, cells_drewN hr.out _, sort1_drewN hw.out _⟩
        case measure => simp [intOf]; omega
    · obtain rfl : s = r := by omega
      obtain ⟨e, he⟩ : ∃ e, e = mid + M - s := ⟨_, rfl⟩
      have hf : Found d A M B s e mid := by
        rw [he]
        have := HP.out
        exact srch_found hsr.out (by omega) (by omega) (by omega) (by omega) (by omega) (by omega) (by omega)
      have he1 : (nn : Int) - (s : Int) = (e : Int) := by omega
      obtain ⟨P1, P2, P3, P4, PL⟩ := found_parts hf HS1.out HS2.out
      have PR := shuf_mono (shuf_rot _ d s M e (Nat.le_refl _) hf.s1 hf.e0) hf.s0 hf.e1
      have PN := rot_none (d := d) hf.s1 hf.e0
      have f1 := hf.s0
      have f2 := hf.s1
      have f3 := hf.e0
      have f4 := hf.e1
      have f5 := hf.md
      have f6 := hf.lo
      have f7 := hf.hi
      clear hf hsr HS1 HS2 he
      obtain ⟨dd, hdd⟩ : ∃ dd, dd = rot d s M e := ⟨_, rfl⟩
      have HDD : ∀ x, x < N → dd x < 4294967296 := by
        rw [hdd]
        intro x hx
        exact shuf_all (shuf_mono PR (Nat.zero_le _) hB) (fun v => v < 4294967296) (fun x _ hx => HD.out x hx) x (Nat.zero_le _) hx
      have T1 := fun w0 hc => rotate_any b off N cap s M e d w0 hc
      rw [← hdd] at P1 P2 P3 P4 PL PR PN T1
      have GP := hid (And.intro P1 (And.intro P2 (And.intro P3 (And.intro P4 (And.intro PL (And.intro PR HDD))))))
      have GT := hid T1
      have GN := hid PN
      clear P1 P2 P3 P4 PL PR HDD T1 PN hdd
      have HM : RowKit.Hid (mid < B ∧ A < mid) := hid ⟨by omega, by omega⟩
      have GL : RowKit.Hid (∀ w0, Cells w0 b off N dd → A < s → s < mid → Calls Try.prog 110 #[.slice (some ⟨b, off, none⟩) N cap, .int .i64 (A : Int), .int .i64 (s : Int), .int .i64 (mid : Int), .func (.func 92) #[] #[]] w0 (fun e w' => ∃ d1, Turns b off N w0 d1 e w' ∧ Shuf A mid dd d1 ∧ Srt d1 A mid)) := by
        intro w0 hc0 t1 t2
        exact IH.out (mid - A) (by have := HK.out; have := HM.out; omega) b off N cap A s mid dd w0 rfl hc0 GP.out.2.2.2.2.2.2 t1 t2 (by omega) hN GP.out.1 GP.out.2.1
      have GR : RowKit.Hid (∀ w0 d1, Cells w0 b off N d1 → Shuf A mid dd d1 → mid < e → e < B → Calls Try.prog 110 #[.slice (some ⟨b, off, none⟩) N cap, .int .i64 (mid : Int), .int .i64 (e : Int), .int .i64 (B : Int), .func (.func 92) #[] #[]] w0 (fun e w' => ∃ d2, Turns b off N w0 d2 e w' ∧ Shuf mid B d1 d2 ∧ Srt d2 mid B)) := by
        intro w0 d1 hc0 hsh t1 t2
        have o1 := shuf_out hsh
        refine IH.out (B - mid) (by have := HK.out; have := HM.out; omega) b off N cap mid e B d1 w0 rfl hc0 ?_ t1 t2 (by omega) hN (srt_congr GP.out.2.2.1 (fun x g1 g2 => o1 x (by omega))) (srt_congr GP.out.2.2.2.1 (fun x g1 g2 => o1 x (by omega)))
        intro x hx
        exact shuf_all (shuf_mono hsh (Nat.zero_le _) (by omega : mid ≤ N)) (fun v => v < 4294967296) (fun x _ hx => GP.out.2.2.2.2.2.2 x hx) x (Nat.zero_le _) hx
      have FIN : RowKit.Hid (∀ d1 d2, Shuf A mid dd d1 → Srt d1 A mid → Shuf mid B d1 d2 → Srt d2 mid B → Shuf A B d d2 ∧ Srt d2 A B) := by
        intro d1 d2 t1 t2 t3 t4
        have := HM.out
        exact ⟨shuf_trans GP.out.2.2.2.2.2.1 (shuf_trans (shuf_mono t1 (Nat.le_refl _) (by omega)) (shuf_mono t3 (by omega) (Nat.le_refl _))), sym_end GP.out.2.2.2.2.1 t1 t2 t3 t4⟩
      have NL : RowKit.Hid (¬ (A < s ∧ s < mid) → Srt dd A mid) := by
        intro hn
        by_cases hz : A < s
        · have : s = mid := by omega
          rw [← this]; exact GP.out.1
        · have : s = A := by omega
          rw [← this]; exact GP.out.2.1
      have NR : RowKit.Hid (¬ (mid < e ∧ e < B) → ∀ d1, Shuf A mid dd d1 → Srt d1 mid B) := by
        intro hn d1 hsh
        have o1 := shuf_out hsh
        refine srt_congr ?_ (fun x g1 g2 => o1 x (by omega))
        by_cases hz : mid < e
        · have : e = B := by omega
          rw [← this]; exact GP.out.2.2.1
        · have : e = mid := by omega
          rw [← this]; exact GP.out.2.2.2.1
      have HCD : RowKit.Hid (¬ (s < M ∧ M < e) → Cells wr b off N dd) := by
        intro hn
        show Cells _ _ _ _ _
        rw [GN.out hn]; exact hr.out
      clear IH HK GP
      by_cases x1 : s < M
      · by_cases x2 : s < mid
        · have ysM : (s : Int) < (M : Int) := by omega
          have yMe : (M : Int) < (e : Int) := by omega
          go_wp2_with fail
          refine (GT.out _ hr.out x1 (by omega) (by omega) (by omega)).mono ?_; rintro e0 w' ⟨rfl, hk, hk3⟩
          have hk2 := sort1_trans hw.out hk3
          by_cases x3 : A < s
          · by_cases x4 : e < B
            · have yAs : (A : Int) < (s : Int) := by omega
              have ysmid : (s : Int) < (mid : Int) := by omega
              have ymide : (mid : Int) < (e : Int) := by omega
              have yeB : (e : Int) < (B : Int) := by omega
              first
                | (exfalso; omega)
                | (go_wp2_with fail
                   refine (GL.out _ hk (by omega) (by omega)).mono ?_; rintro e2 w2 ⟨d1, ⟨rfl, g1, g2⟩, g3, g4⟩
                   go_wp2_with fail
                   refine (GR.out _ d1 g1 g3 (by omega) (by omega)).mono ?_; rintro e3 w3 ⟨d2, ⟨rfl, q1, q2⟩, q3, q4⟩
                   go_wp2
                   go_end0
                   have z := FIN.out _ _ g3 g4 q3 q4
                   exact ⟨_, ⟨rfl, q1, sort1_trans hk2 (sort1_trans g2 q2)⟩, z.1, z.2⟩)
            · have yAs : (A : Int) < (s : Int) := by omega
              have ysmid : (s : Int) < (mid : Int) := by omega
              have ymide : (mid : Int) < (e : Int) := by omega
              have yeB : decide ((e : Int) < (B : Int)) = false := decide_eq_false (by omega)
              first
                | (exfalso; omega)
                | (go_wp2_with fail
                   refine (GL.out _ hk (by omega) (by omega)).mono ?_; rintro e2 w2 ⟨d1, ⟨rfl, g1, g2⟩, g3, g4⟩
                   go_wp2
                   go_end0
                   have z := FIN.out _ _ g3 g4 (.refl _) (NR.out (by omega) _ g3)
                   exact ⟨_, ⟨rfl, g1, sort1_trans hk2 g2⟩, z.1, z.2⟩)
          · by_cases x4 : e < B
            · have yAs : decide ((A : Int) < (s : Int)) = false := decide_eq_false (by omega)
              have ymide : (mid : Int) < (e : Int) := by omega
              have yeB : (e : Int) < (B : Int) := by omega
              first
                | (exfalso; omega)
                | (go_wp2_with fail
                   refine (GR.out _ dd hk (.refl dd) (by omega) (by omega)).mono ?_; rintro e3 w3 ⟨d2, ⟨rfl, q1, q2⟩, q3, q4⟩
                   go_wp2
                   go_end0
                   have z := FIN.out _ _ (.refl _) (NL.out (by omega)) q3 q4
                   exact ⟨_, ⟨rfl, q1, sort1_trans hk2 q2⟩, z.1, z.2⟩)
            · have yAs : decide ((A : Int) < (s : Int)) = false := decide_eq_false (by omega)
              have ymide : (mid : Int) < (e : Int) := by omega
              have yeB : decide ((e : Int) < (B : Int)) = false := decide_eq_false (by omega)
              first
                | (exfalso; omega)
                | (go_wp2
                   go_end0
                   have z := FIN.out _ _ (.refl _) (NL.out (by omega)) (.refl _) (NR.out (by omega) _ (.refl _))
                   exact ⟨_, ⟨rfl, hk, hk2⟩, z.1, z.2⟩)
        · have hk := HCD.out (by omega)
          have hk2 := hw.out
          have ysM : (s : Int) < (M : Int) := by omega
          have yMe : decide ((M : Int) < (e : Int)) = false := decide_eq_false (by omega)
          by_cases x4 : e < B
          · have ysmid : decide ((s : Int) < (mid : Int)) = false := decide_eq_false (by omega)
            have ymide : (mid : Int) < (e : Int) := by omega
            have yeB : (e : Int) < (B : Int) := by omega
            first
              | (exfalso; omega)
              | (go_wp2_with fail
                 refine (GR.out _ dd hk (.refl dd) (by omega) (by omega)).mono ?_; rintro e3 w3 ⟨d2, ⟨rfl, q1, q2⟩, q3, q4⟩
                 go_wp2
                 go_end0
                 have z := FIN.out _ _ (.refl _) (NL.out (by omega)) q3 q4
                 exact ⟨_, ⟨rfl, q1, sort1_trans hk2 q2⟩, z.1, z.2⟩)
          · have ysmid : decide ((s : Int) < (mid : Int)) = false := decide_eq_false (by omega)
            have ymide : (mid : Int) < (e : Int) := by omega
            have yeB : decide ((e : Int) < (B : Int)) = false := decide_eq_false (by omega)
            first
              | (exfalso; omega)
              | (go_wp2
                 go_end0
                 have z := FIN.out _ _ (.refl _) (NL.out (by omega)) (.refl _) (NR.out (by omega) _ (.refl _))
                 exact ⟨_, ⟨rfl, hk, hk2⟩, z.1, z.2⟩)
      · by_cases x2 : s < mid
        · have hk := HCD.out (by omega)
          have hk2 := hw.out
          have ysM : decide ((s : Int) < (M : Int)) = false := decide_eq_false (by omega)
          by_cases x3 : A < s
          · have yAs : (A : Int) < (s : Int) := by omega
            have ysmid : (s : Int) < (mid : Int) := by omega
            have ymide : decide ((mid : Int) < (e : Int)) = false := decide_eq_false (by omega)
            first
              | (exfalso; omega)
              | (go_wp2_with fail
                 refine (GL.out _ hk (by omega) (by omega)).mono ?_; rintro e2 w2 ⟨d1, ⟨rfl, g1, g2⟩, g3, g4⟩
                 go_wp2
                 go_end0
                 have z := FIN.out _ _ g3 g4 (.refl _) (NR.out (by omega) _ g3)
                 exact ⟨_, ⟨rfl, g1, sort1_trans hk2 g2⟩, z.1, z.2⟩)
          · have yAs : decide ((A : Int) < (s : Int)) = false := decide_eq_false (by omega)
            have ymide : decide ((mid : Int) < (e : Int)) = false := decide_eq_false (by omega)
            first
              | (exfalso; omega)
              | (go_wp2
                 go_end0
                 have z := FIN.out _ _ (.refl _) (NL.out (by omega)) (.refl _) (NR.out (by omega) _ (.refl _))
                 exact ⟨_, ⟨rfl, hk, hk2⟩, z.1, z.2⟩)
        · have hk := HCD.out (by omega)
          have hk2 := hw.out
          have ysM : decide ((s : Int) < (M : Int)) = false := decide_eq_false (by omega)
          have ysmid : decide ((s : Int) < (mid : Int)) = false := decide_eq_false (by omega)
          have ymide : decide ((mid : Int) < (e : Int)) = false := decide_eq_false (by omega)
          first
            | (exfalso; omega)
            | (go_wp2
               go_end0
               have z := FIN.out _ _ (.refl _) (NL.out (by omega)) (.refl _) (NR.out (by omega) _ (.refl _))
               exact ⟨_, ⟨rfl, hk, hk2⟩, z.1, z.2⟩)

set_option maxRecDepth 100000 in
set_option maxHeartbeats 4000000 in
theorem sym_lo (k : Nat) (ih : ∀ m, m < k → SymSaid m) (b off N cap A M B mid : Nat) (d : Nat → Nat) (w : World) (hk : B - A = k) (hc : Cells w b off N d) (hd : ∀ x, x < N → d x < 4294967296) (h1 : A + 1 < M) (h2 : M + 1 < B) (hB : B ≤ N) (hN : N ≤ 300) (hs1 : Srt d A M) (hs2 : Srt d M B)
    (hmid : ((A : Int) + (B : Int)) / 2 = (mid : Int)) (hgt : M ≤ mid) :
    Calls Try.prog 110 #[.slice (some ⟨b, off, none⟩) N cap, .int .i64 (A : Int), .int .i64 (M : Int), .int .i64 (B : Int), theCmp] w
      (fun e w' => ∃ d', Turns b off N w d' e w' ∧ Shuf A B d d' ∧ Srt d' A B) := by
  have HC := hid hc; clear hc
  have HD := hid hd; clear hd
  have HS1 := hid hs1; clear hs1
  have HS2 := hid hs2; clear hs2
  have IH := hid ih; clear ih
  have HK := hid hk; clear hk
  unfold theCmp
  have b0 : ((M : Int) - (A : Int) == 1) = false := by rw [beq_eq_false_iff_ne]; omega
  have b1 : ((B : Int) - (M : Int) == 1) = false := by rw [beq_eq_false_iff_ne]; omega
  obtain ⟨nn, hnn⟩ : ∃ nn : Nat, (mid : Int) + (M : Int) = (nn : Int) := ⟨mid + M, by omega⟩
  obtain ⟨p, hp⟩ : ∃ p : Nat, (nn : Int) - 1 = (p : Int) := ⟨nn - 1, by omega⟩
  have hgt' : ¬ (mid : Int) < (M : Int) := by omega
  go_enter Try.func110, Try.ntmps110
  go_wp2
  have HP : RowKit.Hid (A ≤ M ∧ M ≤ M ∧ A ≤ A ∧ p < B + A ∧ M + M ≤ p + 1) := hid ⟨by omega, by omega, by omega, by omega, by omega⟩
  go_loopw [20, 21] (fun v u wr => ∃ (s r : Nat), RowKit.Hid (Srch d p A M s r) ∧ v = .int .i64 (s : Int) ∧ u = .int .i64 (r : Int) ∧ RowKit.Hid (Cells wr b off N d) ∧ RowKit.Hid (Sort1 b w wr)) (fun v u _ => (intOf u - intOf v).toNat)
  case atStart => exact ⟨A, M, srch_start d p A M HP.out.1, rfl, rfl, HC, sort1_refl b w⟩
  case round =>
    clear HC
    obtain ⟨s, r, hsr, rfl, rfl, hr, hw⟩ := hrel
    have z1 := hsr.out.a
    have z2 := hsr.out.b
    have z3 := hsr.out.c
    by_cases hlt : s < r
    · obtain ⟨c, hh⟩ : ∃ c, c = (s + r) / 2 := ⟨_, rfl⟩
      have hm1 : s ≤ c := by omega
      have hm2 : c < r := by omega
      have hc2 : ((s : Int) + (r : Int)) / 2 = (c : Int) := by omega
      clear hh
      obtain ⟨q, hq⟩ : ∃ q, q = p - c := ⟨_, rfl⟩
      have hq0 := HP.out
      have hq1 : (p : Int) - (c : Int) = (q : Int) := by omega
      have hq2 : M ≤ q := by omega
      have hq3 : q < B := by omega
      clear hq0
      have HQ := hid hq; clear hq
      have ca := hr.out.cell q (by omega)
      have cb := hr.out.cell c (by omega)
      have v1 := HD.out q (by omega)
      have v2 := HD.out c (by omega)
      have e5 : (0 : Int) ≤ (q : Int) := by omega
      have e6 : (0 : Int) ≤ (c : Int) := by omega
      have e7 : (q : Int) < (N : Int) := by omega
      have e8 : (c : Int) < (N : Int) := by omega
      have e9 : IntKind.i64.wrap (q : Int) = (q : Int) := by rw [IntKind.wrap_i64]; omega
      by_cases hk : kk (d q) < kk (d c)
      · have hk' : ckk (d q) (d c) < 0 := by rw [ckk_neg]; exact hk
        go_wp2
        go_quiet ((go_at_call 92; exact Calls.quiet_of_same (cmp_q _ _ v1 v2 _)))
        go_wp2
        go_roundw
        case rel => exact ⟨s, c, srch_down hsr.out HS1.out HS2.out HP.out.2.2.1 HP.out.2.1 HP.out.2.2.2.1 HP.out.2.2.2.2 hm1 hm2 (by rw [← HQ.out]; exact hk), rfl, rfl, cells_drewN hr.out _, sort1_drewN hw.out _⟩
        case measure => simp [intOf]; omega
      · have hk' : decide (ckk (d q) (d c) < 0) = false := decide_eq_false (by rw [ckk_neg]; exact hk)
        go_wp2
        go_quiet ((go_at_call 92; exact Calls.quiet_of_same (cmp_q _ _ v1 v2 _)))
        go_wp2
        go_roundw
        case rel => exact ⟨c + 1, r, srch_up hsr.out HS1.out HS2.out HP.out.2.2.1 HP.out.2.1 HP.out.2.2.2.1 HP.out.2.2.2.2 hm1 hm2 (by rw [← HQ.out]; omega), rfl, rfl, cells_drewN hr.out _, sort1_drewN hw.out _⟩
        case measure => simp [intOf]; omega
    · obtain rfl : s = r := by omega
      obtain ⟨e, he⟩ : ∃ e, e = mid + M - s := ⟨_, rfl⟩
      have hf : Found d A M B s e mid := by
        rw [he]
        have := HP.out
        exact srch_found hsr.out (by omega) (by omega) (by omega) (by omega) (by omega) (by omega) (by omega)
      have he1 : (nn : Int) - (s : Int) = (e : Int) := by omega
      obtain ⟨P1, P2, P3, P4, PL⟩ := found_parts hf HS1.out HS2.out
      have PR := shuf_mono (shuf_rot _ d s M e (Nat.le_refl _) hf.s1 hf.e0) hf.s0 hf.e1
      have PN := rot_none (d := d) hf.s1 hf.e0
      have f1 := hf.s0
      have f2 := hf.s1
      have f3 := hf.e0
      have f4 := hf.e1
      have f5 := hf.md
      have f6 := hf.lo
      have f7 := hf.hi
      clear hf hsr HS1 HS2 he
      obtain ⟨dd, hdd⟩ : ∃ dd, dd = rot d s M e := ⟨_, rfl⟩
      have HDD : ∀ x, x < N → dd x < 4294967296 := by
        rw [hdd]
        intro x hx
        exact shuf_all (shuf_mono PR (Nat.zero_le _) hB) (fun v => v < 4294967296) (fun x _ hx => HD.out x hx) x (Nat.zero_le _) hx
      have T1 := fun w0 hc => rotate_any b off N cap s M e d w0 hc
      rw [← hdd] at P1 P2 P3 P4 PL PR PN T1
      have GP := hid (And.intro P1 (And.intro P2 (And.intro P3 (And.intro P4 (And.intro PL (And.intro PR HDD))))))
      have GT := hid T1
      have GN := hid PN
      clear P1 P2 P3 P4 PL PR HDD T1 PN hdd
      have HM : RowKit.Hid (mid < B ∧ A < mid) := hid ⟨by omega, by omega⟩
      have GL : RowKit.Hid (∀ w0, Cells w0 b off N dd → A < s → s < mid → Calls Try.prog 110 #[.slice (some ⟨b, off, none⟩) N cap, .int .i64 (A : Int), .int .i64 (s : Int), .int .i64 (mid : Int), .func (.func 92) #[] #[]] w0 (fun e w' => ∃ d1, Turns b off N w0 d1 e w' ∧ Shuf A mid dd d1 ∧ Srt d1 A mid)) := by
        intro w0 hc0 t1 t2
        exact IH.out (mid - A) (by have := HK.out; have := HM.out; omega) b off N cap A s mid dd w0 rfl hc0 GP.out.2.2.2.2.2.2 t1 t2 (by omega) hN GP.out.1 GP.out.2.1
      have GR : RowKit.Hid (∀ w0 d1, Cells w0 b off N d1 → Shuf A mid dd d1 → mid < e → e < B → Calls Try.prog 110 #[.slice (some ⟨b, off, none⟩) N cap, .int .i64 (mid : Int), .int .i64 (e : Int), .int .i64 (B : Int), .func (.func 92) #[] #[]] w0 (fun e w' => ∃ d2, Turns b off N w0 d2 e w' ∧ Shuf mid B d1 d2 ∧ Srt d2 mid B)) := by
        intro w0 d1 hc0 hsh t1 t2
        have o1 := shuf_out hsh
        refine IH.out (B - mid) (by have := HK.out; have := HM.out; omega) b off N cap mid e B d1 w0 rfl hc0 ?_ t1 t2 (by omega) hN (srt_congr GP.out.2.2.1 (fun x g1 g2 => o1 x (by omega))) (srt_congr GP.out.2.2.2.1 (fun x g1 g2 => o1 x (by omega)))
        intro x hx
        exact shuf_all (shuf_mono hsh (Nat.zero_le _) (by omega : mid ≤ N)) (fun v => v < 4294967296) (fun x _ hx => GP.out.2.2.2.2.2.2 x hx) x (Nat.zero_le _) hx
      have FIN : RowKit.Hid (∀ d1 d2, Shuf A mid dd d1 → Srt d1 A mid → Shuf mid B d1 d2 → Srt d2 mid B → Shuf A B d d2 ∧ Srt d2 A B) := by
        intro d1 d2 t1 t2 t3 t4
        have := HM.out
        exact ⟨shuf_trans GP.out.2.2.2.2.2.1 (shuf_trans (shuf_mono t1 (Nat.le_refl _) (by omega)) (shuf_mono t3 (by omega) (Nat.le_refl _))), sym_end GP.out.2.2.2.2.1 t1 t2 t3 t4⟩
      have NL : RowKit.Hid (¬ (A < s ∧ s < mid) → Srt dd A mid) := by
        intro hn
        by_cases hz : A < s
        · have : s = mid := by omega
          rw [← this]; exact GP.out.1
        · have : s = A := by omega
          rw [← this]; exact GP.out.2.1
      have NR : RowKit.Hid (¬ (mid < e ∧ e < B) → ∀ d1, Shuf A mid dd d1 → Srt d1 mid B) := by
        intro hn d1 hsh
        have o1 := shuf_out hsh
        refine srt_congr ?_ (fun x g1 g2 => o1 x (by omega))
        by_cases hz : mid < e
        · have : e = B := by omega
          rw [← this]; exact GP.out.2.2.1
        · have : e = mid := by omega
          rw [← this]; exact GP.out.2.2.2.1
      have HCD : RowKit.Hid (¬ (s < M ∧ M < e) → Cells wr b off N dd) := by
        intro hn
        show Cells _ _ _ _ _
        rw [GN.out hn]; exact hr.out
      clear IH HK GP
      by_cases x1 : s < M
      · by_cases x2 : s < mid
        · have ysM : (s : Int) < (M : Int) := by omega
          have yMe : (M : Int) < (e : Int) := by omega
          go_wp2_with fail
          refine (GT.out _ hr.out x1 (by omega) (by omega) (by omega)).mono ?_; rintro e0 w' ⟨rfl, hk, hk3⟩
          have hk2 := sort1_trans hw.out hk3
          by_cases x3 : A < s
          · by_cases x4 : e < B
            · have yAs : (A : Int) < (s : Int) := by omega
              have ysmid : (s : Int) < (mid : Int) := by omega
              have ymide : (mid : Int) < (e : Int) := by omega
              have yeB : (e : Int) < (B : Int) := by omega
              first
                | (exfalso; omega)
                | (go_wp2_with fail
                   refine (GL.out _ hk (by omega) (by omega)).mono ?_; rintro e2 w2 ⟨d1, ⟨rfl, g1, g2⟩, g3, g4⟩
                   go_wp2_with fail
                   refine (GR.out _ d1 g1 g3 (by omega) (by omega)).mono ?_; rintro e3 w3 ⟨d2, ⟨rfl, q1, q2⟩, q3, q4⟩
                   go_wp2
                   go_end0
                   have z := FIN.out _ _ g3 g4 q3 q4
                   exact ⟨_, ⟨rfl, q1, sort1_trans hk2 (sort1_trans g2 q2)⟩, z.1, z.2⟩)
            · have yAs : (A : Int) < (s : Int) := by omega
              have ysmid : (s : Int) < (mid : Int) := by omega
              have ymide : (mid : Int) < (e : Int) := by omega
              have yeB : decide ((e : Int) < (B : Int)) = false := decide_eq_false (by omega)
              first
                | (exfalso; omega)
                | (go_wp2_with fail
                   refine (GL.out _ hk (by omega) (by omega)).mono ?_; rintro e2 w2 ⟨d1, ⟨rfl, g1, g2⟩, g3, g4⟩
                   go_wp2
                   go_end0
                   have z := FIN.out _ _ g3 g4 (.refl _) (NR.out (by omega) _ g3)
                   exact ⟨_, ⟨rfl, g1, sort1_trans hk2 g2⟩, z.1, z.2⟩)
          · by_cases x4 : e < B
            · have yAs : decide ((A : Int) < (s : Int)) = false := decide_eq_false (by omega)
              have ymide : (mid : Int) < (e : Int) := by omega
              have yeB : (e : Int) < (B : Int) := by omega
              first
                | (exfalso; omega)
                | (go_wp2_with fail
                   refine (GR.out _ dd hk (.refl dd) (by omega) (by omega)).mono ?_; rintro e3 w3 ⟨d2, ⟨rfl, q1, q2⟩, q3, q4⟩
                   go_wp2
                   go_end0
                   have z := FIN.out _ _ (.refl _) (NL.out (by omega)) q3 q4
                   exact ⟨_, ⟨rfl, q1, sort1_trans hk2 q2⟩, z.1, z.2⟩)
            · have yAs : decide ((A : Int) < (s : Int)) = false := decide_eq_false (by omega)
              have ymide : (mid : Int) < (e : Int) := by omega
              have yeB : decide ((e : Int) < (B : Int)) = false := decide_eq_false (by omega)
              first
                | (exfalso; omega)
                | (go_wp2
                   go_end0
                   have z := FIN.out _ _ (.refl _) (NL.out (by omega)) (.refl _) (NR.out (by omega) _ (.refl _))
                   exact ⟨_, ⟨rfl, hk, hk2⟩, z.1, z.2⟩)
        · have hk := HCD.out (by omega)
          have hk2 := hw.out
          have ysM : (s : Int) < (M : Int) := by omega
          have yMe : decide ((M : Int) < (e : Int)) = false := decide_eq_false (by omega)
          by_cases x4 : e < B
          · have ysmid : decide ((s : Int) < (mid : Int)) = false := decide_eq_false (by omega)
            have ymide : (mid : Int) < (e : Int) := by omega
            have yeB : (e : Int) < (B : Int) := by omega
            first
              | (exfalso; omega)
              | (go_wp2_with fail
                 refine (GR.out _ dd hk (.refl dd) (by omega) (by omega)).mono ?_; rintro e3 w3 ⟨d2, ⟨rfl, q1, q2⟩, q3, q4⟩
                 go_wp2
                 go_end0
                 have z := FIN.out _ _ (.refl _) (NL.out (by omega)) q3 q4
                 exact ⟨_, ⟨rfl, q1, sort1_trans hk2 q2⟩, z.1, z.2⟩)
          · have ysmid : decide ((s : Int) < (mid : Int)) = false := decide_eq_false (by omega)
            have ymide : (mid : Int) < (e : Int) := by omega
            have yeB : decide ((e : Int) < (B : Int)) = false := decide_eq_false (by omega)
            first
              | (exfalso; omega)
              | (go_wp2
                 go_end0
                 have z := FIN.out _ _ (.refl _) (NL.out (by omega)) (.refl _) (NR.out (by omega) _ (.refl _))
                 exact ⟨_, ⟨rfl, hk, hk2⟩, z.1, z.2⟩)
      · by_cases x2 : s < mid
        · have hk := HCD.out (by omega)
          have hk2 := hw.out
          have ysM : decide ((s : Int) < (M : Int)) = false := decide_eq_false (by omega)
          by_cases x3 : A < s
          · have yAs : (A : Int) < (s : Int) := by omega
            have ysmid : (s : Int) < (mid : Int) := by omega
            have ymide : decide ((mid : Int) < (e : Int)) = false := decide_eq_false (by omega)
            first
              | (exfalso; omega)
              | (go_wp2_with fail
                 refine (GL.out _ hk (by omega) (by omega)).mono ?_; rintro e2 w2 ⟨d1, ⟨rfl, g1, g2⟩, g3, g4⟩
                 go_wp2
                 go_end0
                 have z := FIN.out _ _ g3 g4 (.refl _) (NR.out (by omega) _ g3)
                 exact ⟨_, ⟨rfl, g1, sort1_trans hk2 g2⟩, z.1, z.2⟩)
          · have yAs : decide ((A : Int) < (s : Int)) = false := decide_eq_false (by omega)
            have ymide : decide ((mid : Int) < (e : Int)) = false := decide_eq_false (by omega)
            first
              | (exfalso; omega)
              | (go_wp2
                 go_end0
                 have z := FIN.out _ _ (.refl _) (NL.out (by omega)) (.refl _) (NR.out (by omega) _ (.refl _))
                 exact ⟨_, ⟨rfl, hk, hk2⟩, z.1, z.2⟩)
        · have hk := HCD.out (by omega)
          have hk2 := hw.out
          have ysM : decide ((s : Int) < (M : Int)) = false := decide_eq_false (by omega)
          have ysmid : decide ((s : Int) < (mid : Int)) = false := decide_eq_false (by omega)
          have ymide : decide ((mid : Int) < (e : Int)) = false := decide_eq_false (by omega)
          first
            | (exfalso; omega)
            | (go_wp2
               go_end0
               have z := FIN.out _ _ (.refl _) (NL.out (by omega)) (.refl _) (NR.out (by omega) _ (.refl _))
               exact ⟨_, ⟨rfl, hk, hk2⟩, z.1, z.2⟩)

theorem sym_all : ∀ k, SymSaid k := by
  intro k
  induction k using Nat.strongRecOn with
  | ind k ih =>
    intro b off N cap A M B d w hk hc hd h1 h2 hB hN hs1 hs2
    by_cases e1 : M = A + 1
    · subst e1; exact sym_left b off N cap A B d w hc hd h2 hB hN hs2
    by_cases e2 : B = M + 1
    · subst e2; exact sym_right b off N cap A M d w hc hd (by omega) hB hN hs1
    obtain ⟨mid, hm⟩ : ∃ mid, mid = (A + B) / 2 := ⟨_, rfl⟩
    by_cases hgt : mid < M
    · exact sym_hi k ih b off N cap A M B mid d w hk hc hd (by omega) (by omega) hB hN hs1 hs2 (by omega) hgt
    · exact sym_lo k ih b off N cap A M B mid d w hk hc hd (by omega) (by omega) hB hN hs1 hs2 (by omega) (by omega)
end Go.Proofs.Ytbenjfipbeikmaa
