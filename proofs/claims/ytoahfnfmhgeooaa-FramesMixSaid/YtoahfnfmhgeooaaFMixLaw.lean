/-
  The law of mixing.
-/
import Derived.Test.YtoahfnfmhgeooaaFMixR
import Derived.Test.YtoahfnfmhgeooaaFAlike
import Derived.Test.YtoahfnfmhgeooaaFLike
import Derived.Deep.DeepCutAuto
import Derived.Deep.RegionWith
import Derived.Deep.DeepCutAuto
import Derived.Deep.RegionWith
import Derived.Deep.DeepCutAuto
import Derived.Deep.RegionWith
import Derived.Deep.DeepCutAuto
import Derived.Deep.RegionWith
import Derived.Deep.DeepCutAuto
import Derived.Deep.RegionWith
import Derived.Deep.DeepCutAuto
import Derived.Deep.RegionWith
import Derived.Deep.DeepCutAuto
import Derived.Deep.RegionWith
import Derived.Deep.DeepCutAuto
import Derived.Deep.RegionWith
import Derived.Deep.DeepCutAuto
import Derived.Deep.RegionWith
import Derived.Deep.DeepCutAuto
import Derived.Deep.RegionWith
namespace Go.Proofs.Ytoahfnfmhgeooaa
open Go.RowKit Go.Shelf

/-- A frame and an error; with an error the frame of nothing. -/
def FOut (w : World) (E X Y p q : Int) (n : Nat) (F : Nat → Nat) (e : Ending) (w' : World) : Prop :=
  ∃ A c, e = .returned (.tuple #[frm X Y p q A n c, .int .i64 E]) ∧ Src w' A n F ∧ Below w.heap.size w w' ∧ ∀ a, A = some a → w.heap.size ≤ a.block
theorem FOut.ok {w w' : World} {X Y : Int} {p q n : Nat} {F : Nat → Nat} {e : Ending} (h : FramedOk w X Y p q n F e w') : FOut w 0 X Y p q n F e w' := by
  obtain ⟨b, c, he, _, _, h3, h4, h5, h6⟩ := h
  exact ⟨_, c, he, Src.of_rd h5 h4, h6, fun a ha => by injection ha with ha; rw [← ha]; exact h3⟩
theorem FOut.err {w w' : World} {E : Int} {F : Nat → Nat} {e : Ending} (h : ErrOut w E e w') : FOut w E 0 0 0 0 0 F e w' :=
  ⟨none, 0, h.1, fun h => absurd h (by omega), h.2, fun a ha => by cases ha⟩

/-- What both say: the same error, and frames that read alike. -/
structure Both (K1 K2 : FuncId) (args : Array Value) (S : World → Prop) (E X Y p q : Int) (n : Nat) : Prop where
  ex : ∃ F : Nat → Nat, (∀ w1, S w1 → Calls Try.prog K1 args w1 (FOut w1 E X Y p q n F)) ∧ (∀ w1, S w1 → Calls Try.prog K2 args w1 (FOut w1 E X Y p q n F))
  none : E ≠ 0 → X = 0 ∧ Y = 0 ∧ p = 0 ∧ q = 0 ∧ n = 0
  le : n ≤ 65536

theorem mix_both (X Y X' Y' : Int) (p q p' q' n c n' c' t : Nat) (A B : Option Addr) (F G : Nat → Nat) (h1 : frmE X Y p q n = 0) (h2 : frmE X' Y' p' q' n' = 0) (hn : n ≤ 65536) (hn4 : n % 4 = 0) (hnc : n ≤ c) (hcm : c ≤ maxLen) (hn0 : 0 < n) : ∃ (E X0 Y0 p0 q0 : Int) (n0 : Nat), Both 55 56 #[frm X Y p q A n c, frm X' Y' p' q' B n' c', .float .f32 t] (fun w => Src w A n F ∧ Src w B n' G) E X0 Y0 p0 q0 n0 := by
  by_cases h : X = X' ∧ Y = Y' ∧ (p : Int) = p' ∧ (q : Int) = q'
  · obtain ⟨e1, e2, e3, e4⟩ := h
    obtain ⟨_, g1⟩ := frmE_zero h1
    obtain ⟨_, g2⟩ := frmE_zero h2
    have e5 : n' = n := by rw [← e3, ← e4, ← g1] at g2; omega
    subst e1 e2 e5
    rw [← e3, ← e4]
    exact ⟨0, X, Y, p, q, n', ⟨⟨_, fun w1 hb => (mix_same X Y p q n' c c' t A B F G w1 h1 hn hb.1 hb.2).mono fun _ _ h => .ok h, fun w1 hb => (mixr_same X Y p q n' c c' t A B F G w1 hn hn4 hnc hcm hn0 hb.1 hb.2).mono fun _ _ h => .ok h⟩, fun h => absurd rfl h, hn⟩⟩
  · exact ⟨5, 0, 0, 0, 0, 0, ⟨⟨F, fun w1 _ => (mix_apart X Y X' Y' p' q' p q n c n' c' t A B w1 h1 h2 h).mono fun _ _ h => .err h, fun w1 _ => (mixr_apart X Y X' Y' p' q' p q n c n' c' t A B w1 h).mono fun _ _ h => .err h⟩, fun _ => ⟨rfl, rfl, rfl, rfl, rfl⟩, by omega⟩⟩

theorem thr_both (X Y X' Y' mx my ma mb : Int) (p q p' q' n c n' c' k cm : Nat) (A B M : Option Addr) (F G H : Nat → Nat) (h1 : frmE X Y p q n = 0) (h2 : frmE X' Y' p' q' n' = 0) (hm : matE mx my ma mb k = 0) (hn : n ≤ 65536) (hn4 : n % 4 = 0) (hnc : n ≤ c) (hcm : c ≤ maxLen) (hn0 : 0 < n) : ∃ (E X0 Y0 p0 q0 : Int) (n0 : Nat), Both 57 59 #[frm X Y p q A n c, frm X' Y' p' q' B n' c', frm mx my ma mb M k cm] (fun w => Src w A n F ∧ Src w B n' G ∧ Src w M k H) E X0 Y0 p0 q0 n0 := by
  by_cases h : X = X' ∧ Y = Y' ∧ (p : Int) = p' ∧ (q : Int) = q'
  · obtain ⟨e1, e2, e3, e4⟩ := h
    obtain ⟨_, g1⟩ := frmE_zero h1
    obtain ⟨_, g2⟩ := frmE_zero h2
    have e5 : n' = n := by rw [← e3, ← e4, ← g1] at g2; omega
    subst e1 e2 e5
    rw [← e3, ← e4]
    by_cases hq : X = mx ∧ Y = my ∧ (p : Int) = ma ∧ (q : Int) = mb
    · obtain ⟨e6, e7, e8, e9⟩ := hq
      rw [← e6, ← e7, ← e8, ← e9] at hm ⊢
      exact ⟨0, X, Y, p, q, n', ⟨⟨_, fun w1 hb => (thr_same X Y p q n' c c' k cm A B M F G H w1 h1 hm hn hb.1 hb.2.1 hb.2.2).mono fun _ _ h => .ok h, fun w1 hb => (thrr_same X Y p q n' c c' k cm A B M F G H w1 h1 hm hn hn4 hnc hcm hn0 hb.1 hb.2.1 hb.2.2).mono fun _ _ h => .ok h⟩, fun h => absurd rfl h, hn⟩⟩
    · exact ⟨5, 0, 0, 0, 0, 0, ⟨⟨F, fun w1 _ => (thr_apartm X Y mx my ma mb p q n' c c' k cm A B M w1 h1 hm hq).mono fun _ _ h => .err h, fun w1 _ => (thrr_apartm X Y mx my ma mb p q n' c c' k cm A B M w1 hq).mono fun _ _ h => .err h⟩, fun _ => ⟨rfl, rfl, rfl, rfl, rfl⟩, by omega⟩⟩
  · exact ⟨5, 0, 0, 0, 0, 0, ⟨⟨F, fun w1 _ => (thr_apart X Y X' Y' p' q' mx my ma mb p q n c n' c' k cm A B M w1 h1 h2 hm h).mono fun _ _ h => .err h, fun w1 _ => (thrr_apart X Y X' Y' p' q' mx my ma mb p q n c n' c' k cm A B M w1 h).mono fun _ _ h => .err h⟩, fun _ => ⟨rfl, rfl, rfl, rfl, rfl⟩, by omega⟩⟩

theorem Src.far5a {w : World} {A : Option Addr} {n : Nat} {F : Nat → Nat} (h : Src w A n F) {g : Nat} (hg : ∀ a, A = some a → a.block ≠ g) (u0 u1 u2 u3 u4 : Value) :
    Src (((((w.setCell ⟨g, 0, none⟩ u0).setCell ⟨g, 1, none⟩ u1).setCell ⟨g, 2, none⟩ u2).setCell ⟨g, 3, none⟩ u3).setCell ⟨g, 4, none⟩ u4) A n F := fun hn => by
  obtain ⟨b, off, rfl, hlt, hr⟩ := h hn
  have hne : b ≠ g := hg _ rfl
  have h2 : Src w (some ⟨b, off, none⟩) n F := fun _ => ⟨b, off, rfl, hlt, hr⟩
  exact (h2.far5 hne u0 u1 u2 u3 u4) hn

/-- The boxes of the law. -/
structure MSt (w : World) (X Y p q : Int) (n c : Nat) (A : Option Addr) (F : Nat → Nat) (X' Y' p' q' : Int) (n' c' : Nat) (B : Option Addr) (G : Nat → Nat) (mx my ma mb : Int) (k cm : Nat) (M : Option Addr) (H : Nat → Nat) (wr : World) : Prop where
  a : Blk wr w.heap.size 39 #[.int .i64 X, .int .i64 Y, .int .i64 p, .int .i64 q, .slice A n c]
  b : Blk wr (w.heap.size + 1) 39 #[.int .i64 X', .int .i64 Y', .int .i64 p', .int .i64 q', .slice B n' c']
  m : Blk wr (w.heap.size + 2) 76 #[.int .i64 mx, .int .i64 my, .int .i64 ma, .int .i64 mb, .slice M k cm]
  fa : Src wr A n F
  fb : Src wr B n' G
  fm : Src wr M k H
  be : Below w.heap.size w wr
theorem MSt.below {w wr w1 : World} {X Y p q : Int} {n c : Nat} {A : Option Addr} {F : Nat → Nat} {X' Y' p' q' : Int} {n' c' : Nat} {B : Option Addr} {G : Nat → Nat} {mx my ma mb : Int} {k cm : Nat} {M : Option Addr} {H : Nat → Nat}
    (h : MSt w X Y p q n c A F X' Y' p' q' n' c' B G mx my ma mb k cm M H wr) (hb : Below wr.heap.size wr w1) : MSt w X Y p q n c A F X' Y' p' q' n' c' B G mx my ma mb k cm M H w1 :=
  ⟨h.a.below hb h.a.lt, h.b.below hb h.b.lt, h.m.below hb h.m.lt, h.fa.below hb, h.fb.below hb, h.fm.below hb, below_to h.be hb⟩

theorem MSt.far5 {w wr : World} {X Y p q : Int} {n c ga : Nat} {F : Nat → Nat} {X' Y' p' q' : Int} {n' c' gb : Nat} {G : Nat → Nat} {mx my ma mb : Int} {k cm : Nat} {M : Option Addr} {H : Nat → Nat} (hM : ∀ wr, Below w.heap.size w wr → Src wr M k H)
    (h : MSt w X Y p q n c (some ⟨ga, 0, none⟩) F X' Y' p' q' n' c' (some ⟨gb, 0, none⟩) G mx my ma mb k cm M H wr) {g : Nat} (hg : w.heap.size + 2 < g) (ha : ga < g) (hb : gb < g) (u0 u1 u2 u3 u4 : Value) :
    MSt w X Y p q n c (some ⟨ga, 0, none⟩) F X' Y' p' q' n' c' (some ⟨gb, 0, none⟩) G mx my ma mb k cm M H (((((wr.setCell ⟨g, 0, none⟩ u0).setCell ⟨g, 1, none⟩ u1).setCell ⟨g, 2, none⟩ u2).setCell ⟨g, 3, none⟩ u3).setCell ⟨g, 4, none⟩ u4) :=
  ⟨h.a.far5 (by omega) _ _ _ _ _, h.b.far5 (by omega) _ _ _ _ _, h.m.far5 (by omega) _ _ _ _ _, h.fa.far5 (by omega) _ _ _ _ _, h.fb.far5 (by omega) _ _ _ _ _, hM _ (below_set5 h.be (by omega) _ _ _ _ _), below_set5 h.be (by omega) _ _ _ _ _⟩

/-- Right frames in the boxes. -/
def Ready (w : World) (mx my ma mb : Int) (k cm : Nat) (M : Option Addr) (H : Nat → Nat) (wr : World) : Prop :=
  ∃ (X Y : Int) (p q n ga : Nat) (F : Nat → Nat) (X' Y' : Int) (p' q' n' c' gb : Nat) (G : Nat → Nat), frmE X Y p q n = 0 ∧ frmE X' Y' p' q' n' = 0 ∧ n % 4 = 0 ∧ 0 < n ∧ n ≤ 256 ∧ 0 < n' ∧ n' ≤ 256 ∧ 0 < p ∧ p ≤ 8 ∧ 0 < q ∧ q ≤ 8 ∧ n = 4 * (p * q) ∧ w.heap.size + 1 < ga ∧
    MSt w X Y p q n n (some ⟨ga, 0, none⟩) F X' Y' p' q' n' c' (some ⟨gb, 0, none⟩) G mx my ma mb k cm M H wr
theorem blk5 {w : World} {g : Nat} {t : TypeId} {c0 c1 c2 c3 c4 : Value} (h : Blk w g t #[c0, c1, c2, c3, c4]) (u0 u1 u2 u3 u4 : Value) :
    Blk (((((w.setCell ⟨g, 0, none⟩ u0).setCell ⟨g, 1, none⟩ u1).setCell ⟨g, 2, none⟩ u2).setCell ⟨g, 3, none⟩ u3).setCell ⟨g, 4, none⟩ u4) g t #[u0, u1, u2, u3, u4] := h.set5 u0 u1 u2 u3 u4

set_option maxRecDepth 100000 in
set_option maxHeartbeats 4000000 in
theorem framesMix_any (xa ya pa qa : Int) (A0 : Option Addr) (na ca : Nat) (FA : Nat → Nat) (xb yb pb qb : Int) (B0 : Option Addr) (nb cb : Nat) (FB : Nat → Nat) (t : Nat) (mx my ma mb : Int) (M : Option Addr) (k cm : Nat) (H : Nat → Nat) (apart : Bool) (w : World)
    (hA : Src w A0 na FA) (hB : Src w B0 nb FB) (hM : Src w M k H) :
    Calls Try.prog 8 #[frm xa ya pa qa A0 na ca, frm xb yb pb qb B0 nb cb, .float .f32 t, frm mx my ma mb M k cm, .bool apart] w fun e w' => e = .returned (.bool true) ∧ Below w.heap.size w w' := by
  obtain ⟨wb, hwb⟩ : ∃ wb, wb = ((w.alloc (.cells #[.int .i64 xa, .int .i64 ya, .int .i64 pa, .int .i64 qa, .slice A0 na ca] 39)).alloc (.cells #[.int .i64 xb, .int .i64 yb, .int .i64 pb, .int .i64 qb, .slice B0 nb cb] 39)).alloc (.cells #[.int .i64 mx, .int .i64 my, .int .i64 ma, .int .i64 mb, .slice M k cm] 76) := ⟨_, rfl⟩
  have hbe : Below w.heap.size w wb := by rw [hwb]; exact (((Below.refl _ _).alloc (Nat.le_refl _) _).alloc (by simp) _).alloc (by simp; omega) _
  have HS0 : RowKit.Hid (MSt w xa ya pa qa na ca A0 FA xb yb pb qb nb cb B0 FB mx my ma mb k cm M H wb) := by
    refine hid ⟨?_, ?_, ?_, hA.below hbe, hB.below hbe, hM.below hbe, hbe⟩
    · rw [hwb]; exact ((Blk.new_at _ _ _ rfl).alloc _).alloc _
    · rw [hwb]; exact (Blk.new_at _ _ _ (by simp)).alloc _
    · rw [hwb]; exact Blk.new_at _ _ _ (by simp)
  have HWB := hid hwb
  have HMM : RowKit.Hid (∀ wr, Below w.heap.size w wr → Src wr M k H) := hid fun wr h => hM.below h
  have hsz : wb.heap.size = w.heap.size + 3 := by rw [hwb]; simp
  have HSZ := hid hsz
  clear hwb hbe hA hB hM hsz
  go_enter Try.func8, Try.ntmps8
  go_wp2_with fail
  rw [← HWB.out]
  refine (landed_any _).mono ?_
  rintro e w' ⟨rfl, rfl⟩
  clear HWB
  have a0 := HS0.out.a.cell 0
  have a1 := HS0.out.a.cell 1
  have a2 := HS0.out.a.cell 2
  have a3 := HS0.out.a.cell 3
  have a4 := HS0.out.a.cell 4
  have b0 := HS0.out.b.cell 0
  have b1 := HS0.out.b.cell 1
  have b2 := HS0.out.b.cell 2
  have b3 := HS0.out.b.cell 3
  have b4 := HS0.out.b.cell 4
  simp at a0 a1 a2 a3 a4 b0 b1 b2 b3 b4
  have la := HS0.out.a.lt
  have lb := HS0.out.b.lt
  go_wp2_with fail
  go_cut [] (fun wx => Ready w mx my ma mb k cm M H wx)
  case first =>
    have fz0 := fun i => HS0.out.a.frozen i
    have fz1 := fun i => HS0.out.b.frozen i
    go_region_with (first
      | (go_at_call 24; have hh := HS1; clear hh; refine (fit_any xb yb pb qb B0 nb cb FB _ HS1.out.fb).mono ?_; rintro e w2 hfit; obtain ⟨X', Y', p', q', N', gb, G, rfl, hok', hreg', hpq', hm0', hm2', p1', p2', q1', q2', x1', x2', y1', y2', hgb, hgl', hrd', hb⟩ := fit_nat hfit; have HS2 := hid (HS1.out.below hb); have HA2 := hid (HA1.out.below hb); have HB2 := hid (Src.of_rd hrd' hgl'); have HFB := hid (And.intro hok' (And.intro hpq' (And.intro hm0' (And.intro hm2' (And.intro p1' (And.intro p2' (And.intro q1' q2'))))))); have HGB := hid hgb; have HSZ2 := hid hb.size; have HGL2 := hid hgl'; have fy0 := fun i => HS2.out.a.frozen i; have fy1 := fun i => HS2.out.b.frozen i; have y0 := HS2.out.a.cell 0; have y1 := HS2.out.a.cell 1; have y2 := HS2.out.a.cell 2; have y3 := HS2.out.a.cell 3; have y4 := HS2.out.a.cell 4; have v0 := HS2.out.b.cell 0; have v1 := HS2.out.b.cell 1; have v2 := HS2.out.b.cell 2; have v3 := HS2.out.b.cell 3; have v4 := HS2.out.b.cell 4; simp at y0 y1 y2 y3 y4 v0 v1 v2 v3 v4; clear hfit hok' hreg' hpq' hm0' hm2' p1' p2' q1' q2' x1' x2' y1' y2' hgb hgl' hrd' hb)
      | (go_at_call 24; refine (fit_any xa ya pa qa A0 na ca FA _ (HS0.out.below (below_drewN (Below.refl _ _) 1)).fa).mono ?_; rintro e w1 hfit; obtain ⟨X, Y, p, q, N, ga, F, rfl, hok, hreg, hpq, hm0, hm2, p1, p2, q1, q2, x1, x2, y1, y2, hga, hgl, hrd, hb⟩ := fit_nat hfit; have HS1 := hid (HS0.out.below ((Below.refl _ _).drew.trans hb)); have HA1 := hid (Src.of_rd hrd hgl); have HFA := hid (And.intro hok (And.intro hpq (And.intro hm0 (And.intro hm2 (And.intro p1 (And.intro p2 (And.intro q1 q2))))))); have HGA := hid hga; have HSZ1 := hid hb.size; have HGL1 := hid hgl; have t0 := HS1.out.b.cell 0; have t1 := HS1.out.b.cell 1; have t2 := HS1.out.b.cell 2; have t3 := HS1.out.b.cell 3; have t4 := HS1.out.b.cell 4; simp at t0 t1 t2 t3 t4; clear hfit hok hreg hpq hm0 hm2 p1 p2 q1 q2 x1 x2 y1 y2 hga hgl hrd hb))
    all_goals
      go_wp2_with fail
      go_meet
      case rel =>
        have g1 := HGA.out
        have g2 := HGB.out
        have g3 := HSZ1.out
        have g4 := HSZ.out
        have g5 : (wb.drewN 1).heap.size = wb.heap.size := rfl
        have g6 : wb.drew.heap.size = wb.heap.size := rfl
        obtain ⟨ok1, pq1, m01, m21, pp1, pp2, qq1, qq2⟩ := HFA.out
        obtain ⟨ok2, pq2, m02, m22, _, _, _, _⟩ := HFB.out
        have na : ga ≠ w.heap.size := by omega
        have na1 : ga ≠ w.heap.size + 1 := by omega
        have nb0 : gb ≠ w.heap.size := by omega
        have nb1 : gb ≠ w.heap.size + 1 := by omega
        have hbe := below_set5 (below_set5 HS2.out.be (Nat.le_refl _) (.int .i64 X) (.int .i64 Y) (.int .i64 p) (.int .i64 q) (.slice (some ⟨ga, 0, none⟩) (4 * N) (4 * N))) (show w.heap.size ≤ w.heap.size + 1 by omega) (.int .i64 X') (.int .i64 Y') (.int .i64 p') (.int .i64 q') (.slice (some ⟨gb, 0, none⟩) (4 * N') (4 * N'))
        refine ⟨X, Y, p, q, 4 * N, ga, F, X', Y', p', q', 4 * N', 4 * N', gb, G, ok1, ok2, by omega, by omega, by omega, by omega, by omega, pp1, pp2, qq1, qq2, by rw [pq1], by omega, ?_, ?_, ?_, ?_, ?_, HMM.out _ hbe, hbe⟩
        · exact (HS2.out.a.set5 _ _ _ _ _).far5 (by omega) _ _ _ _ _
        · exact (HS2.out.b.far5 (by omega) _ _ _ _ _).set5 _ _ _ _ _
        · exact (HS2.out.m.far5 (by omega) _ _ _ _ _).far5 (by omega) _ _ _ _ _
        · exact (HA2.out.far5 na _ _ _ _ _).far5 na1 _ _ _ _ _
        · exact (HB2.out.far5 nb0 _ _ _ _ _).far5 nb1 _ _ _ _ _
  case rest =>
    clear HS0
    go_upto_if 24 with fail
    obtain ⟨X, Y, p, q, n, ga, F, X', Y', p', q', n', c', gb, G, ok1, ok2, n4, n0, nl, m0, ml, p1, p2, q1, q2, npq, hga, hst⟩ := hcut
    have HST := hid hst
    have HOK := hid (And.intro ok1 (And.intro ok2 (And.intro n4 (And.intro n0 (And.intro nl (And.intro m0 (And.intro ml (And.intro p1 (And.intro p2 (And.intro q1 (And.intro q2 npq)))))))))))
    have HW : RowKit.Hid (Ready w mx my ma mb k cm M H wc) := hid ⟨X, Y, p, q, n, ga, F, X', Y', p', q', n', c', gb, G, ok1, ok2, n4, n0, nl, m0, ml, p1, p2, q1, q2, npq, hga, hst⟩
    clear hst ok1 ok2 n4 m0 ml npq
    go_cut [] (fun wx => Ready w mx my ma mb k cm M H wx)
    case first =>
      cases apart
      case true =>
        go_wp2_with fail
        go_meet
        case rel => exact HW.out
      case false =>
        have a0 := HST.out.a.cell 0
        have a1 := HST.out.a.cell 1
        have a2 := HST.out.a.cell 2
        have a3 := HST.out.a.cell 3
        have a4 := HST.out.a.cell 4
        have b0 := HST.out.b.cell 0
        have b1 := HST.out.b.cell 1
        have b2 := HST.out.b.cell 2
        have b3 := HST.out.b.cell 3
        have b4 := HST.out.b.cell 4
        simp at a0 a1 a2 a3 a4 b0 b1 b2 b3 b4
        have la := HST.out.a.lt
        have lb := HST.out.b.lt
        go_wp2_with fail
        have h12 := HOK.out
        refine (like_any X Y X' Y' p' q' p q n n' c' (some ⟨gb, 0, none⟩) G wc h12.2.2.2.2.2.1 h12.2.2.2.2.2.2.2.2.2.2.2 p2 q2 HST.out.fb).mono ?_
        clear h12
        rintro e w1 ⟨G', gb', c2, rfl, r1, r2, r3, r4, r5, hb⟩
        have HS1 := hid (HST.out.below hb)
        have HG := hid (Src.of_rd r5 r4)
        have HR3 := hid r3
        have fy1 := fun i => HS1.out.b.frozen i
        clear r5 r4 hb r3
        have v0 := HS1.out.b.cell 0
        have v1 := HS1.out.b.cell 1
        have v2 := HS1.out.b.cell 2
        have v3 := HS1.out.b.cell 3
        have v4 := HS1.out.b.cell 4
        simp at v0 v1 v2 v3 v4
        go_wp2_with fail
        go_meet
        case rel =>
          obtain ⟨ok1, ok2, n4, n0, nl, m0, ml, p1, p2, q1, q2, npq⟩ := HOK.out
          have hbe := below_set5 HS1.out.be (show w.heap.size ≤ w.heap.size + 1 by omega) (.int .i64 X) (.int .i64 Y) (.int .i64 p) (.int .i64 q) (.slice (some ⟨gb', 0, none⟩) n c2)
          have g1 := HR3.out
          have g2 := HST.out.b.lt
          refine ⟨X, Y, p, q, n, ga, F, X, Y, p, q, n, c2, gb', G', ok1, ok1, n4, n0, nl, n0, nl, p1, p2, q1, q2, npq, hga, ?_, ?_, ?_, ?_, ?_, HMM.out _ hbe, hbe⟩
          · exact HS1.out.a.far5 (by omega) _ _ _ _ _
          · exact HS1.out.b.set5 _ _ _ _ _
          · exact HS1.out.m.far5 (by omega) _ _ _ _ _
          · exact HS1.out.fa.far5 (by omega) _ _ _ _ _
          · exact HG.out.far5 (by omega) _ _ _ _ _
    case rest =>
      clear HST HOK HW
      obtain ⟨X, Y, p, q, n, ga, F, X', Y', p', q', n', c', gb, G, ok1, ok2, n4, n0, nl, m0, ml, p1, p2, q1, q2, npq, hga, hst⟩ := hcut
      obtain ⟨E, X0, Y0, p0, q0, r0, hboth⟩ := mix_both X Y X' Y' p q p' q' n n n' c' t (some ⟨ga, 0, none⟩) (some ⟨gb, 0, none⟩) F G ok1 ok2 (by omega) n4 (Nat.le_refl _) (by unfold maxLen; omega) n0
      obtain ⟨⟨R, hP, hR⟩, hnone, hle⟩ := hboth
      have HST := hid hst
      have HOK := hid (And.intro ok1 (And.intro ok2 (And.intro n4 (And.intro n0 (And.intro nl (And.intro m0 (And.intro ml (And.intro p1 (And.intro p2 (And.intro q1 (And.intro q2 npq)))))))))))
      have HLA := hid (hst.fa.lt n0)
      have HLB := hid (hst.fb.lt m0)
      have HP := hid hP
      have HR := hid hR
      have HNN := hid hnone
      have HLE := hid hle
      clear hst ok1 ok2 n4 n0 nl m0 ml p1 p2 q1 q2 npq hP hR hnone hle
      have a0 := HST.out.a.cell 0
      have a1 := HST.out.a.cell 1
      have a2 := HST.out.a.cell 2
      have a3 := HST.out.a.cell 3
      have a4 := HST.out.a.cell 4
      have b0 := HST.out.b.cell 0
      have b1 := HST.out.b.cell 1
      have b2 := HST.out.b.cell 2
      have b3 := HST.out.b.cell 3
      have b4 := HST.out.b.cell 4
      simp at a0 a1 a2 a3 a4 b0 b1 b2 b3 b4
      have la := HST.out.a.lt
      have lb := HST.out.b.lt
      go_wp2_with fail
      refine (HP.out wc ⟨HST.out.fa, HST.out.fb⟩).mono ?_
      rintro e w1 ⟨A1, c1, rfl, hs1, hb1, _⟩
      have HB1 := hid hb1
      have HS1 := hid (HST.out.below hb1)
      have HR1 := hid hs1
      clear a0 a1 a2 a3 a4 b0 b1 b2 b3 b4 la lb hb1 hs1
      have a0 := HS1.out.a.cell 0
      have a1 := HS1.out.a.cell 1
      have a2 := HS1.out.a.cell 2
      have a3 := HS1.out.a.cell 3
      have a4 := HS1.out.a.cell 4
      have b0 := HS1.out.b.cell 0
      have b1 := HS1.out.b.cell 1
      have b2 := HS1.out.b.cell 2
      have b3 := HS1.out.b.cell 3
      have b4 := HS1.out.b.cell 4
      simp at a0 a1 a2 a3 a4 b0 b1 b2 b3 b4
      have la := HS1.out.a.lt
      have lb := HS1.out.b.lt
      go_wp2_with fail
      have hbf : Blk (w1.alloc (.cells #[.int .i64 X0, .int .i64 Y0, .int .i64 p0, .int .i64 q0, .slice A1 r0 c1] 39)) w1.heap.size 39 #[.int .i64 X0, .int .i64 Y0, .int .i64 p0, .int .i64 q0, .slice A1 r0 c1] := Blk.new_at _ _ _ rfl
      have hal : Below w1.heap.size w1 (w1.alloc (.cells #[.int .i64 X0, .int .i64 Y0, .int .i64 p0, .int .i64 q0, .slice A1 r0 c1] 39)) := (Below.refl _ _).alloc (Nat.le_refl _) _
      refine (HR.out _ ⟨(HS1.out.below hal).fa, (HS1.out.below hal).fb⟩).mono ?_
      rintro e w2 ⟨A2, c2, rfl, hs2, hb2, _⟩
      have HS2 := hid ((HS1.out.below hal).below hb2)
      have HF2 := hid (hbf.below hb2 hbf.lt)
      have HR2 := hid ((HR1.out.below hal).below hb2)
      have HQ2 := hid hs2
      have hlf := HF2.out.lt
      have HLF := hid (show w.heap.size + 2 < w1.heap.size from HS1.out.m.lt)
      have HFG := hid hlf
      have f0 := HF2.out.cell 0
      have f1 := HF2.out.cell 1
      have f2 := HF2.out.cell 2
      have f3 := HF2.out.cell 3
      have f4 := HF2.out.cell 4
      simp at f0 f1 f2 f3 f4
      clear a0 a1 a2 a3 a4 b0 b1 b2 b3 b4 la lb hs2 hb2 hbf hal HR1 HS1
      go_wp2_with fail
      have hal2 : Below w2.heap.size w2 (w2.alloc (.cells #[.int .i64 X0, .int .i64 Y0, .int .i64 p0, .int .i64 q0, .slice A2 r0 c2] 39)) := (Below.refl _ _).alloc (Nat.le_refl _) _
      refine (alike_any E X0 Y0 p0 q0 X0 Y0 p0 q0 r0 c1 r0 c2 A1 A2 R R _ HLE.out (fun _ => ⟨rfl, rfl, rfl, rfl, rfl, HR2.out.below hal2, HQ2.out.below hal2, fun _ _ => rfl⟩) HNN.out).mono ?_
      rintro e w3 ⟨rfl, hb3⟩
      have HS3 := hid ((HS2.out.below hal2).below hb3)
      have HF3 := hid ((HF2.out.below hal2 HF2.out.lt).below hb3 (HF2.out.below hal2 HF2.out.lt).lt)
      have hg0 : Blk (w2.alloc (.cells #[.int .i64 X0, .int .i64 Y0, .int .i64 p0, .int .i64 q0, .slice A2 r0 c2] 39)) w2.heap.size 39 #[.int .i64 X0, .int .i64 Y0, .int .i64 p0, .int .i64 q0, .slice A2 r0 c2] := Blk.new_at _ _ _ rfl
      have HG3 := hid (hg0.below hb3 hg0.lt)
      have HGA := hid (Nat.lt_of_lt_of_le HLA.out HB1.out.size)
      have HGB := hid (Nat.lt_of_lt_of_le HLB.out HB1.out.size)
      clear hal2 hg0 hb3 HR2 HQ2 HS2 HF2 HP HR HNN HB1 HST HLA HLB f0 f1 f2 f3 f4
      generalize w1.heap.size = fb at *
      generalize w2.heap.size = gx at *
      have a0 := HS3.out.a.cell 0
      have a1 := HS3.out.a.cell 1
      have a2 := HS3.out.a.cell 2
      have a3 := HS3.out.a.cell 3
      have a4 := HS3.out.a.cell 4
      have b0 := HS3.out.b.cell 0
      have b1 := HS3.out.b.cell 1
      have b2 := HS3.out.b.cell 2
      have b3 := HS3.out.b.cell 3
      have b4 := HS3.out.b.cell 4
      have d0 := HS3.out.m.cell 0
      have d1 := HS3.out.m.cell 1
      have d2 := HS3.out.m.cell 2
      have d3 := HS3.out.m.cell 3
      have d4 := HS3.out.m.cell 4
      simp at a0 a1 a2 a3 a4 b0 b1 b2 b3 b4 d0 d1 d2 d3 d4
      have la := HS3.out.a.lt
      have lb := HS3.out.b.lt
      have lm := HS3.out.m.lt
      have f0 := HF3.out.cell 0
      have f1 := HF3.out.cell 1
      have f2 := HF3.out.cell 2
      have f3 := HF3.out.cell 3
      have f4 := HF3.out.cell 4
      simp at f0 f1 f2 f3 f4
      have fz := fun i => HF3.out.frozen i
      by_cases hm : matE mx my ma mb k = 0
      · have zm : (matE mx my ma mb k != 0) = false := by simp [hm]
        obtain ⟨ok1, ok2, n4, n0, nl, m0, ml, p1, p2, q1, q2, npq⟩ := HOK.out
        obtain ⟨E2, X2, Y2, u2', v2', r2, hboth⟩ := thr_both X Y X' Y' mx my ma mb p q p' q' n n n' c' k cm (some ⟨ga, 0, none⟩) (some ⟨gb, 0, none⟩) M F G H ok1 ok2 hm (by omega) n4 (Nat.le_refl _) (by unfold maxLen; omega) n0
        obtain ⟨⟨R2, hP, hR⟩, hnone, hle⟩ := hboth
        have HP := hid hP
        have HR := hid hR
        have HNN2 := hid hnone
        have HLE2 := hid hle
        clear hP hR hnone hle hm ok1 ok2 n4 n0 nl m0 ml p1 p2 q1 q2 npq
        go_wp2_with fail
        refine (HP.out _ ⟨HS3.out.fa, HS3.out.fb, HS3.out.fm⟩).mono ?_
        rintro e w4 ⟨A3, c3, rfl, hs4, hb4, hn4⟩
        have HN4 := hid hn4
        have HLF3 := hid HF3.out.lt
        have HLG3 := hid HG3.out.lt
        have HZ4 := hid hb4.size
        clear hn4
        have HS4 := hid (HS3.out.below hb4)
        have hf4 := HF3.out.below hb4 HF3.out.lt
        have HF4 := hid hf4
        have HG4 := hid (HG3.out.below hb4 HG3.out.lt)
        have HQ4 := hid hs4
        clear f0 f1 f2 f3 f4 fz hs4 hb4 a0 a1 a2 a3 a4 b0 b1 b2 b3 b4 d0 d1 d2 d3 d4
        have f0 := hf4.cell 0
        have f1 := hf4.cell 1
        have f2 := hf4.cell 2
        have f3 := hf4.cell 3
        have f4 := hf4.cell 4
        simp at f0 f1 f2 f3 f4
        have fz := fun i => hf4.frozen i
        clear hf4
        have hs5 := HS4.out.far5 HMM.out HLF.out HGA.out HGB.out (.int .i64 X2) (.int .i64 Y2) (.int .i64 u2') (.int .i64 v2') (.slice A3 r2 c3)
        have HS5 := hid hs5
        have HF5 := hid (HF4.out.set5 (.int .i64 X2) (.int .i64 Y2) (.int .i64 u2') (.int .i64 v2') (.slice A3 r2 c3))
        have d0 := hs5.m.cell 0
        have d1 := hs5.m.cell 1
        have d2 := hs5.m.cell 2
        have d3 := hs5.m.cell 3
        have d4 := hs5.m.cell 4
        clear hs5
        go_wp2_with fail
        have HQ5 := hid (HQ4.out.far5a (g := fb) (fun a ha => by have := HN4.out a ha; have := HLF3.out; omega) (.int .i64 X2) (.int .i64 Y2) (.int .i64 u2') (.int .i64 v2') (.slice A3 r2 c3))
        have HG5 := hid (HG4.out.far5 (G := fb) (by have := HFG.out; omega) (.int .i64 X2) (.int .i64 Y2) (.int .i64 u2') (.int .i64 v2') (.slice A3 r2 c3))
        clear HQ4 HG4
        refine (matteError_any _ _ _ _ _ _ _ _).mono ?_
        rintro e w6 ⟨rfl, hb6⟩
        have HS6 := hid (HS5.out.below hb6)
        have HF6 := hid (HF5.out.below hb6 HF5.out.lt)
        have HG6 := hid (HG5.out.below hb6 HG5.out.lt)
        have HQ6 := hid (HQ5.out.below hb6)
        have HZ6 := hid hb6.size
        clear d0 d1 d2 d3 d4 f0 f1 f2 f3 f4 fz hb6 HS5 HF5 HG5 HQ5
        have a0 := HS6.out.a.cell 0
        have a1 := HS6.out.a.cell 1
        have a2 := HS6.out.a.cell 2
        have a3 := HS6.out.a.cell 3
        have a4 := HS6.out.a.cell 4
        have b0 := HS6.out.b.cell 0
        have b1 := HS6.out.b.cell 1
        have b2 := HS6.out.b.cell 2
        have b3 := HS6.out.b.cell 3
        have b4 := HS6.out.b.cell 4
        have d0 := HS6.out.m.cell 0
        have d1 := HS6.out.m.cell 1
        have d2 := HS6.out.m.cell 2
        have d3 := HS6.out.m.cell 3
        have d4 := HS6.out.m.cell 4
        simp at a0 a1 a2 a3 a4 b0 b1 b2 b3 b4 d0 d1 d2 d3 d4
        have la := HS6.out.a.lt
        have lb := HS6.out.b.lt
        have lm := HS6.out.m.lt
        have g0 := HG6.out.cell 0
        have g1 := HG6.out.cell 1
        have g2 := HG6.out.cell 2
        have g3 := HG6.out.cell 3
        have g4 := HG6.out.cell 4
        simp at g0 g1 g2 g3 g4
        go_wp2_with fail
        refine (HR.out _ ⟨HS6.out.fa, HS6.out.fb, HS6.out.fm⟩).mono ?_
        rintro e w7 ⟨A4, c4, rfl, hs7, hb7, hn7⟩
        have HS7 := hid (HS6.out.below hb7)
        have HF7 := hid (HF6.out.below hb7 HF6.out.lt)
        have hg7 := HG6.out.below hb7 HG6.out.lt
        have HG7 := hid hg7
        have HQ7 := hid (HQ6.out.below hb7)
        have HQ7' := hid hs7
        have HN7 := hid hn7
        clear g0 g1 g2 g3 g4 hs7 hb7 hn7 a0 a1 a2 a3 a4 b0 b1 b2 b3 b4 d0 d1 d2 d3 d4
        have g0 := hg7.cell 0
        have g1 := hg7.cell 1
        have g2 := hg7.cell 2
        have g3 := hg7.cell 3
        have g4 := hg7.cell 4
        simp at g0 g1 g2 g3 g4
        have fz := fun i => hg7.frozen i
        clear hg7
        have hsz6 : (((((w4.setCell ⟨fb, 0, none⟩ (.int .i64 X2)).setCell ⟨fb, 1, none⟩ (.int .i64 Y2)).setCell ⟨fb, 2, none⟩ (.int .i64 u2')).setCell ⟨fb, 3, none⟩ (.int .i64 v2')).setCell ⟨fb, 4, none⟩ (.slice A3 r2 c3)).heap.size = w4.heap.size := size_set5 _ _ _ _ _ _ _
        have HN7' : RowKit.Hid (∀ a, A4 = some a → gx < a.block) := hid fun a ha => by have := HN7.out a ha; have := HZ6.out; have := HZ4.out; have := HLG3.out; omega
        have HN4' : RowKit.Hid (∀ a, A3 = some a → gx < a.block) := hid fun a ha => by have := HN4.out a ha; have := HLG3.out; omega
        have HGX : RowKit.Hid (w.heap.size + 2 < gx ∧ ga < gx ∧ gb < gx ∧ fb < gx) := hid (by have := HLF.out; have := HFG.out; have := HGA.out; have := HGB.out; omega)
        clear hsz6
        have HS8 := hid (HS7.out.far5 HMM.out HGX.out.1 HGX.out.2.1 HGX.out.2.2.1 (.int .i64 X2) (.int .i64 Y2) (.int .i64 u2') (.int .i64 v2') (.slice A4 r2 c4))
        have hf8 := HF7.out.far5 (G := gx) (by have := HGX.out.2.2.2; omega) (.int .i64 X2) (.int .i64 Y2) (.int .i64 u2') (.int .i64 v2') (.slice A4 r2 c4)
        have HF8 := hid hf8
        have HG8 := hid (HG7.out.set5 (.int .i64 X2) (.int .i64 Y2) (.int .i64 u2') (.int .i64 v2') (.slice A4 r2 c4))
        have HQ8 := hid (HQ7.out.far5a (g := gx) (fun a ha => by have := HN4'.out a ha; omega) (.int .i64 X2) (.int .i64 Y2) (.int .i64 u2') (.int .i64 v2') (.slice A4 r2 c4))
        have HQ8' := hid (HQ7'.out.far5a (g := gx) (fun a ha => by have := HN7'.out a ha; omega) (.int .i64 X2) (.int .i64 Y2) (.int .i64 u2') (.int .i64 v2') (.slice A4 r2 c4))
        clear HS7 HF7 HG7 HQ7 HQ7' HS6 HF6 HG6 HQ6
        have f0 := hf8.cell 0
        have f1 := hf8.cell 1
        have f2 := hf8.cell 2
        have f3 := hf8.cell 3
        have f4 := hf8.cell 4
        clear hf8
        go_wp2_with fail
        refine (alike_any E2 X2 Y2 u2' v2' X2 Y2 u2' v2' r2 c3 r2 c4 A3 A4 R2 R2 _ HLE2.out (fun _ => ⟨rfl, rfl, rfl, rfl, rfl, HQ8.out, HQ8'.out, fun _ _ => rfl⟩) HNN2.out).mono ?_
        rintro e w9 ⟨rfl, hb9⟩
        have HS9 := hid (HS8.out.below hb9)
        have HF9 := hid (HF8.out.below hb9 HF8.out.lt)
        have HG9 := hid (HG8.out.below hb9 HG8.out.lt)
        clear f0 f1 f2 f3 f4 g0 g1 g2 g3 g4 fz hb9 HS8 HF8 HG8 HQ8 HQ8' HN7 HN7' HN4' HNN2 HLE2 HP HR
        have a0 := HS9.out.a.cell 0
        have a1 := HS9.out.a.cell 1
        have a2 := HS9.out.a.cell 2
        have a3 := HS9.out.a.cell 3
        have a4 := HS9.out.a.cell 4
        have b0 := HS9.out.b.cell 0
        have b1 := HS9.out.b.cell 1
        have b2 := HS9.out.b.cell 2
        have b3 := HS9.out.b.cell 3
        have b4 := HS9.out.b.cell 4
        have d0 := HS9.out.m.cell 0
        have d1 := HS9.out.m.cell 1
        have d2 := HS9.out.m.cell 2
        have d3 := HS9.out.m.cell 3
        have d4 := HS9.out.m.cell 4
        simp at a0 a1 a2 a3 a4 b0 b1 b2 b3 b4 d0 d1 d2 d3 d4
        have la := HS9.out.a.lt
        have lb := HS9.out.b.lt
        have lm := HS9.out.m.lt
        go_wp2_with fail
        have HPQ := hid (HOK.out.2.2.2.2.2.2.2.2.1)
        refine (matteOf_any X Y mx my ma mb p q (p * q) k cm M H w9 rfl HOK.out.2.2.2.2.2.2.2.2.1 HOK.out.2.2.2.2.2.2.2.2.2.2.1 HS9.out.fm).mono ?_
        rintro e w10 ⟨H2, kb, kc, rfl, s1, s2, s3, s4, s5, hb10⟩
        have HS10 := hid (HS9.out.below hb10)
        have HF10 := hid (HF9.out.below hb10 HF9.out.lt)
        have HG10 := hid (HG9.out.below hb10 HG9.out.lt)
        have HKB := hid (Src.of_rd s5 s4)
        have HK3 := hid (show fb < kb ∧ gx < kb by have := HF9.out.lt; have := HG9.out.lt; omega)
        have HLF10 := hid (show fb < w10.heap.size ∧ gx < w10.heap.size from ⟨HF10.out.lt, HG10.out.lt⟩)
        clear s1 s2 s3 s4 s5 hb10 a0 a1 a2 a3 a4 b0 b1 b2 b3 b4 d0 d1 d2 d3 d4 la lb lm HS9 HF9 HG9 HPQ
        have a0 := HS10.out.a.cell 0
        have a1 := HS10.out.a.cell 1
        have a2 := HS10.out.a.cell 2
        have a3 := HS10.out.a.cell 3
        have a4 := HS10.out.a.cell 4
        have b0 := HS10.out.b.cell 0
        have b1 := HS10.out.b.cell 1
        have b2 := HS10.out.b.cell 2
        have b3 := HS10.out.b.cell 3
        have b4 := HS10.out.b.cell 4
        simp at a0 a1 a2 a3 a4 b0 b1 b2 b3 b4
        have la := HS10.out.a.lt
        have lb := HS10.out.b.lt
        obtain ⟨ok1, ok2, n4, n0, nl, m0, ml, p1, p2, q1, q2, npq⟩ := HOK.out
        have hmk : matE X Y p q (p * q) = 0 := matE_ok (frmE_zero ok1).1 (by push_cast; rfl)
        obtain ⟨E3, X3, Y3, u3', v3', r3, hboth⟩ := thr_both X Y X' Y' X Y p q p q p' q' n n n' c' (p * q) kc (some ⟨ga, 0, none⟩) (some ⟨gb, 0, none⟩) (some ⟨kb, 0, none⟩) F G H2 ok1 ok2 hmk (by omega) n4 (Nat.le_refl _) (by unfold maxLen; omega) n0
        obtain ⟨⟨R3, hP, hR⟩, hnone, hle⟩ := hboth
        have HP := hid hP
        have HR := hid hR
        have HNN3 := hid hnone
        have HLE3 := hid hle
        clear hP hR hnone hle hmk ok1 ok2 n4 n0 nl m0 ml p1 p2 q1 q2 npq
        generalize hkn : p * q = kn at *
        clear hkn
        have hal : Below w10.heap.size w10 (w10.alloc (.cells #[.int .i64 X, .int .i64 Y, .int .i64 p, .int .i64 q, .slice (some ⟨kb, 0, none⟩) kn kc] 76)) := (Below.refl _ _).alloc (Nat.le_refl _) _
        have hk0 : Blk (w10.alloc (.cells #[.int .i64 X, .int .i64 Y, .int .i64 p, .int .i64 q, .slice (some ⟨kb, 0, none⟩) kn kc] 76)) w10.heap.size 76 #[.int .i64 X, .int .i64 Y, .int .i64 p, .int .i64 q, .slice (some ⟨kb, 0, none⟩) kn kc] := Blk.new_at _ _ _ rfl
        have HAL := hid hal
        have HK0 := hid hk0
        clear hal hk0
        go_wp2_with fail
        refine (HP.out _ ⟨(HS10.out.below HAL.out).fa, (HS10.out.below HAL.out).fb, HKB.out.below HAL.out⟩).mono ?_
        rintro e w11 ⟨A5, c5, rfl, hs11, hb11, hn11⟩
        have HS11 := hid ((HS10.out.below HAL.out).below hb11)
        have hf11 := (HF10.out.below HAL.out HF10.out.lt).below hb11 (HF10.out.below HAL.out HF10.out.lt).lt
        have HF11 := hid hf11
        have HG11 := hid ((HG10.out.below HAL.out HG10.out.lt).below hb11 (HG10.out.below HAL.out HG10.out.lt).lt)
        have HK11 := hid (HK0.out.below hb11 HK0.out.lt)
        have HKB11 := hid ((HKB.out.below HAL.out).below hb11)
        have HQ11 := hid hs11
        have HN11 : RowKit.Hid (∀ a, A5 = some a → fb < a.block ∧ gx < a.block) := hid fun a ha => by have h1 := hn11 a ha; have h2 := HLF10.out; have h3 := HAL.out.size; omega
        have HZ11 := hid (show w10.heap.size ≤ w11.heap.size from Nat.le_trans HAL.out.size hb11.size)
        clear a0 a1 a2 a3 a4 b0 b1 b2 b3 b4 la lb hs11 hb11 hn11 HS10 HF10 HG10 HKB
        have f0 := hf11.cell 0
        have f1 := hf11.cell 1
        have f2 := hf11.cell 2
        have f3 := hf11.cell 3
        have f4 := hf11.cell 4
        simp at f0 f1 f2 f3 f4
        have fz := fun i => hf11.frozen i
        clear hf11
        have kx1 := HLF10.out.1
        have kx2 := HLF10.out.2
        have HS12 := hid (HS11.out.far5 HMM.out HLF.out HGA.out HGB.out (.int .i64 X3) (.int .i64 Y3) (.int .i64 u3') (.int .i64 v3') (.slice A5 r3 c5))
        have HF12 := hid (HF11.out.set5 (.int .i64 X3) (.int .i64 Y3) (.int .i64 u3') (.int .i64 v3') (.slice A5 r3 c5))
        have HG12 := hid (HG11.out.far5 (G := fb) (by have := HFG.out; omega) (.int .i64 X3) (.int .i64 Y3) (.int .i64 u3') (.int .i64 v3') (.slice A5 r3 c5))
        have HK12 := hid (HK11.out.far5 (G := fb) (by omega) (.int .i64 X3) (.int .i64 Y3) (.int .i64 u3') (.int .i64 v3') (.slice A5 r3 c5))
        have HKB12 := hid (HKB11.out.far5 (G := fb) (by have := HK3.out; omega) (.int .i64 X3) (.int .i64 Y3) (.int .i64 u3') (.int .i64 v3') (.slice A5 r3 c5))
        have HQ12 := hid (HQ11.out.far5a (g := fb) (fun a ha => by have := HN11.out a ha; omega) (.int .i64 X3) (.int .i64 Y3) (.int .i64 u3') (.int .i64 v3') (.slice A5 r3 c5))
        have hsz12 : (((((w11.setCell ⟨fb, 0, none⟩ (.int .i64 X3)).setCell ⟨fb, 1, none⟩ (.int .i64 Y3)).setCell ⟨fb, 2, none⟩ (.int .i64 u3')).setCell ⟨fb, 3, none⟩ (.int .i64 v3')).setCell ⟨fb, 4, none⟩ (.slice A5 r3 c5)).heap.size = w11.heap.size := size_set5 _ _ _ _ _ _ _
        have HZ12 := hid hsz12
        clear hsz12 HS11 HF11 HG11 HK11 HKB11 HQ11
        have a0 := HS12.out.a.cell 0
        have a1 := HS12.out.a.cell 1
        have a2 := HS12.out.a.cell 2
        have a3 := HS12.out.a.cell 3
        have a4 := HS12.out.a.cell 4
        have b0 := HS12.out.b.cell 0
        have b1 := HS12.out.b.cell 1
        have b2 := HS12.out.b.cell 2
        have b3 := HS12.out.b.cell 3
        have b4 := HS12.out.b.cell 4
        have k0 := HK12.out.cell 0
        have k1 := HK12.out.cell 1
        have k2 := HK12.out.cell 2
        have k3 := HK12.out.cell 3
        have k4 := HK12.out.cell 4
        go_wp2_with fail
        refine (HR.out _ ⟨HS12.out.fa, HS12.out.fb, HKB12.out⟩).mono ?_
        rintro e w13 ⟨A6, c6, rfl, hs13, hb13, hn13⟩
        have HS13 := hid (HS12.out.below hb13)
        have HF13 := hid (HF12.out.below hb13 HF12.out.lt)
        have hg13 := HG12.out.below hb13 HG12.out.lt
        have HG13 := hid hg13
        have HQ13 := hid (HQ12.out.below hb13)
        have HQ13' := hid hs13
        have HN13 : RowKit.Hid (∀ a, A6 = some a → gx < a.block) := hid fun a ha => by have h1 := hn13 a ha; have h2 := HZ12.out; have h3 := HZ11.out; omega
        clear f0 f1 f2 f3 f4 fz hs13 hb13 hn13 a0 a1 a2 a3 a4 b0 b1 b2 b3 b4 k0 k1 k2 k3 k4
        have g0 := hg13.cell 0
        have g1 := hg13.cell 1
        have g2 := hg13.cell 2
        have g3 := hg13.cell 3
        have g4 := hg13.cell 4
        simp at g0 g1 g2 g3 g4
        have fz := fun i => hg13.frozen i
        clear hg13
        have HS14 := hid (HS13.out.far5 HMM.out HGX.out.1 HGX.out.2.1 HGX.out.2.2.1 (.int .i64 X3) (.int .i64 Y3) (.int .i64 u3') (.int .i64 v3') (.slice A6 r3 c6))
        have hf14 := HF13.out.far5 (G := gx) (by have := HGX.out.2.2.2; omega) (.int .i64 X3) (.int .i64 Y3) (.int .i64 u3') (.int .i64 v3') (.slice A6 r3 c6)
        have HQ14 := hid (HQ13.out.far5a (g := gx) (fun a ha => by have := HN11.out a ha; omega) (.int .i64 X3) (.int .i64 Y3) (.int .i64 u3') (.int .i64 v3') (.slice A6 r3 c6))
        have HQ14' := hid (HQ13'.out.far5a (g := gx) (fun a ha => by have := HN13.out a ha; omega) (.int .i64 X3) (.int .i64 Y3) (.int .i64 u3') (.int .i64 v3') (.slice A6 r3 c6))
        have f0 := hf14.cell 0
        have f1 := hf14.cell 1
        have f2 := hf14.cell 2
        have f3 := hf14.cell 3
        have f4 := hf14.cell 4
        clear hf14 HS13 HF13 HG13 HQ13 HQ13' HS12 HF12 HG12 HK12 HKB12 HQ12
        go_wp2_with fail
        refine (alike_any E3 X3 Y3 u3' v3' X3 Y3 u3' v3' r3 c5 r3 c6 A5 A6 R3 R3 _ HLE3.out (fun _ => ⟨rfl, rfl, rfl, rfl, rfl, HQ14.out, HQ14'.out, fun _ _ => rfl⟩) HNN3.out).mono ?_
        rintro e w15 ⟨rfl, hb15⟩
        have HS15 := hid (HS14.out.below hb15)
        clear hb15
        go_wp2_with fail
        go_ret
        exact ⟨rfl, HS15.out.be⟩
      · have zm : (matE mx my ma mb k != 0) = true := by simp [hm]
        have HM0 := hid hm
        clear hm
        go_wp2_with fail
        refine (thr_bad X Y X' Y' p' q' mx my ma mb p q n n n' c' k cm (some ⟨ga, 0, none⟩) (some ⟨gb, 0, none⟩) M w3 HOK.out.1 HOK.out.2.1 HM0.out).mono ?_
        rintro e w4 ⟨rfl, hb4⟩
        have HS4 := hid (HS3.out.below hb4)
        have hf4 := HF3.out.below hb4 HF3.out.lt
        have HF4 := hid hf4
        clear f0 f1 f2 f3 f4 fz hb4 a0 a1 a2 a3 a4 b0 b1 b2 b3 b4 d0 d1 d2 d3 d4
        have f0 := hf4.cell 0
        have f1 := hf4.cell 1
        have f2 := hf4.cell 2
        have f3 := hf4.cell 3
        have f4 := hf4.cell 4
        simp at f0 f1 f2 f3 f4
        have fz := fun i => hf4.frozen i
        clear hf4
        have hs5 := HS4.out.far5 HMM.out HLF.out HGA.out HGB.out (.int .i64 0) (.int .i64 0) (.int .i64 0) (.int .i64 0) (.slice none 0 0)
        have HS5 := hid hs5
        have HF5 := hid (HF4.out.set5 (.int .i64 0) (.int .i64 0) (.int .i64 0) (.int .i64 0) (.slice none 0 0))
        have d0 := hs5.m.cell 0
        have d1 := hs5.m.cell 1
        have d2 := hs5.m.cell 2
        have d3 := hs5.m.cell 3
        have d4 := hs5.m.cell 4
        clear hs5
        go_wp2_with fail
        refine (matteError_any _ _ _ _ _ _ _ _).mono ?_
        rintro e w6 ⟨rfl, hb6⟩
        have hf6 := HF5.out.below hb6 HF5.out.lt
        have HS6 := hid (HS5.out.below hb6)
        clear d0 d1 d2 d3 d4 f0 f1 f2 f3 f4
        have f0 := hf6.cell 0
        have f1 := hf6.cell 1
        have f2 := hf6.cell 2
        have f3 := hf6.cell 3
        have f4 := hf6.cell 4
        simp at f0 f1 f2 f3 f4
        clear hf6 hb6
        go_wp2_with fail
        try (go_quiet (fail); go_wp2_with fail)
        go_ret
        first | exact ⟨rfl, HS6.out.be⟩ | exact ⟨rfl, below_drewN HS6.out.be _⟩
end Go.Proofs.Ytoahfnfmhgeooaa
