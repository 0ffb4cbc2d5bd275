/-
  Plane and FromPlanes of the program.
-/
import Derived.Test.YtjlghjblpbckfaaFSame
namespace Go.Proofs.Ytjlghjblpbckfaa
open Go.RowKit Go.Shelf
attribute [local go_sem ↓] Go.wp_at_zero Go.wp_at_succ

/-- EqualFunc over exact: two slices that read alike. -/
theorem equalFunc_yes (n c c2 : Nat) (A B : Option Addr) (F G : Nat → Nat) (w : World) (hn : n ≤ 65536) (hF : Src w A n F) (hG : Src w B n G) (hFG : ∀ i, i < n → F i = G i) :
    Calls Try.prog 44 #[.slice A n c, .slice B n c2, .func (.func 30) #[] #[]] w fun e w' => e = .returned (.bool true) ∧ w = w' := by
  have HF := hid hF
  have HG := hid hG
  have HFG := hid hFG
  clear hF hG hFG
  go_enter Try.func44, Try.ntmps44
  go_wp2
  go_loop [17] (fun i => ∃ k : Nat, k ≤ n ∧ i = .int .i64 k) (fun i => n - (intOf i).toNat)
  case atStart => exact ⟨0, Nat.zero_le _, rfl⟩
  case round =>
    obtain ⟨k, hk, rfl⟩ := hrel
    by_cases hlt : k < n
    · obtain ⟨ba, oa, rfl, hba, hRa⟩ := HF.out (by omega)
      obtain ⟨bb, ob, rfl, hbb, hRb⟩ := HG.out (by omega)
      have s1 : w.cell? ⟨ba, oa + k, none⟩ = some (.float .f32 (F k)) := hRa k hlt
      have s2 : w.cell? ⟨bb, ob + k, none⟩ = some (.float .f32 (F k)) := by rw [HFG.out k hlt]; exact hRb k hlt
      clear hRa hRb
      go_wp2_with (go_at_call 30; refine (exact_yes _ _ rfl _).mono ?_; rintro e w' ⟨rfl, rfl⟩)
      go_round
      case rel => exact ⟨k + 1, by omega, by go_num⟩
      case measure => simp [intOf]; omega
    · go_wp2
      go_ret
      exact ⟨rfl, rfl⟩

set_option maxRecDepth 100000 in
set_option maxHeartbeats 1000000 in
/-- The number of a pixel. -/
theorem place_any (X Y : Int) (p q i j : Nat) (w : World) (hi : i < p) (hj : j < q) (hp2 : p ≤ 256) (hq2 : q ≤ 256) (x1 : -1048576 ≤ X) (x2 : X ≤ 1048576) :
    Calls Try.prog 88 #[reg X Y p q, .int .i64 (X + i), .int .i64 (Y + j)] w fun e w' => e = .returned (.int .i64 (p * j + i : Nat)) ∧ Below w.heap.size w w' := by
  have hlt := idx_lt hi hj
  have hle : p * q ≤ 65536 := Nat.mul_le_mul hp2 hq2
  obtain ⟨u, hu⟩ : ∃ u, u = p * j := ⟨_, rfl⟩
  rw [← hu] at hlt ⊢
  have e1 : Y + (j : Int) - Y = j := by omega
  have e2 : (j : Int) * (p : Int) = (u : Int) := by rw [hu]; simp [Int.mul_comm]
  have u1 : (u : Int) ≤ 65536 := by omega
  have e3 : (u : Int) + (X + (i : Int)) - X = ((u + i : Nat) : Int) := by omega
  clear hu hlt hle
  go_enter Try.func88, Try.ntmps88
  go_wp2
  go_ret
  exact ⟨rfl, (Below.refl _ _).alloc (Nat.le_refl _) _⟩

/-- Plane: an error, or the channel. -/
theorem plane_no (x y a b : Int) (A : Option Addr) (n c : Nat) (ch : Int) (w : World) (hok : frmE x y a b n = 0) (hch : ch < 0 ∨ 3 < ch) :
    Calls Try.prog 43 #[frm x y a b A n c, .int .i64 ch] w fun e w' => e = .returned (.tuple #[.slice none 0 0, .int .i64 3]) ∧ Below w.heap.size w w' := by
  have z1 : (frmE x y a b n != 0) = false := by simp [hok]
  clear hok
  by_cases h : ch < 0
  · go_enter Try.func43, Try.ntmps43
    go_wp2_with (go_at_call 73; refine (check_any _ _ _ _ _ _ _ _).mono ?_; rintro e w1 ⟨rfl, hb⟩)
    go_ret2
    exact ⟨rfl, below_box hb⟩
  · have h4 : 4 ≤ ch := by omega
    go_enter Try.func43, Try.ntmps43
    go_wp2_with (go_at_call 73; refine (check_any _ _ _ _ _ _ _ _).mono ?_; rintro e w1 ⟨rfl, hb⟩)
    go_ret2
    exact ⟨rfl, below_box hb⟩

/-- A plane and no error. -/
def PlanedOk (w : World) (m : Nat) (G : Nat → Nat) (e : Ending) (w' : World) : Prop :=
  ∃ b c, e = .returned (.tuple #[.slice (some ⟨b, 0, none⟩) m c, .int .i64 0]) ∧ m ≤ c ∧ c ≤ maxLen ∧ w.heap.size ≤ b ∧ b < w'.heap.size ∧ Rd w' b 0 m G ∧ Below w.heap.size w w'

theorem plane_yes (x y a b : Int) (A : Option Addr) (n c ch m : Nat) (F : Nat → Nat) (w : World) (hok : frmE x y a b n = 0) (hab : a * b = m) (hm0 : 0 < m) (hm : n = 4 * m) (hm2 : m ≤ 16384) (hch : ch < 4) (hF : Src w A n F) :
    Calls Try.prog 43 #[frm x y a b A n c, .int .i64 ch] w (PlanedOk w m fun j => cl (F (ch + 4 * j))) := by
  have z1 : (frmE x y a b n != 0) = false := by simp [hok]
  have HP : RowKit.Hid (∀ w1, Below w.heap.size w w1 → Calls Try.prog 86 #[frm x y a b A n c, .int .i64 ch] w1 (Planed w1 m fun j => cl (F (ch + 4 * j)))) := hid fun w1 h => planep_any x y a b A n c ch m F w1 hab hm0 hm hm2 hch (hF.below h)
  clear hok hab hm hF
  go_enter Try.func43, Try.ntmps43
  go_wp2_with fail
  refine (check_any _ _ _ _ _ _ _ _).mono ?_
  rintro e w1 ⟨rfl, hb⟩
  have HB := hid (below_box hb)
  have hx := boxed hb
  have c0 := hx.cell 0
  have c1 := hx.cell 1
  have c2 := hx.cell 2
  have c3 := hx.cell 3
  have c4 := hx.cell 4
  simp at c0 c1 c2 c3 c4
  clear hb hx
  go_wp2_with fail
  refine (HP.out _ HB.out).mono ?_
  rintro e w2 ⟨pb, pc, rfl, q1, q2, q3, q4, q5, q6⟩
  have HQ : RowKit.Hid (w.heap.size ≤ pb ∧ pb < w2.heap.size ∧ Rd w2 pb 0 m (fun j => cl (F (ch + 4 * j))) ∧ Below w.heap.size w w2) := hid ⟨by have := HB.out.size; omega, q4, q5, below_to HB.out q6⟩
  clear q3 q4 q5 q6
  go_wp2
  go_ret2
  exact ⟨pb, pc, rfl, q1, q2, HQ.out.1, HQ.out.2.1, HQ.out.2.2.1, HQ.out.2.2.2⟩

/-- Four values by index. -/
theorem run_index_sl (u : Nat → Value) (k : Nat) (hk : k < 4) (w : World) : (Instr.index 65 (.agg #[u 0, u 1, u 2, u 3]) (.int .i64 (k : Int))).run Try.prog w = .ok (u k) w := by
  have : k = 0 ∨ k = 1 ∨ k = 2 ∨ k = 3 := by omega
  rcases this with h | h | h | h <;> subst h <;> simp [Instr.index, run_underlying Try.underlying65, asIntOf, go_sem]

/-- The planes as a value. -/
abbrev pls (A : Nat → Option Addr) (n c : Nat → Nat) : Array Value := #[.slice (A 0) (n 0) (c 0), .slice (A 1) (n 1) (c 1), .slice (A 2) (n 2) (c 2), .slice (A 3) (n 3) (c 3)]
theorem pls_get (A : Nat → Option Addr) (n c : Nat → Nat) (k : Nat) (hk : k < 4) : (pls A n c)[k]? = some (.slice (A k) (n k) (c k)) := by
  have : k = 0 ∨ k = 1 ∨ k = 2 ∨ k = 3 := by omega
  rcases this with h | h | h | h <;> subst h <;> rfl

set_option maxRecDepth 100000 in
set_option maxHeartbeats 2000000 in
/-- What FromPlanes says of a channel of a pixel. -/
theorem fromPix_any (X Y : Int) (p q m i j k bp br : Nat) (A : Nat → Option Addr) (c : Nat → Nat) (F : Nat → Nat → Nat) (w : World) (hi : i < p) (hj : j < q) (hk : k < 4) (hm : m = p * q) (hm2 : m ≤ 16384)
    (hp2 : p ≤ 256) (hq2 : q ≤ 256) (x1 : -1048576 ≤ X) (x2 : X ≤ 1048576) (hF : ∀ k, k < 4 → Src w (A k) m (F k))
    (hbp : Blk w bp 65 (pls A (fun _ => m) c)) (hbr : Blk w br 23 #[.int .i64 X, .int .i64 Y, .int .i64 p, .int .i64 q]) :
    Calls Try.prog 87 #[.int .i64 (X + i), .int .i64 (Y + j), .int .i64 k, .pointer (some ⟨bp, 0, none⟩), .pointer (some ⟨br, 0, none⟩)] w (Gave w (cl (F k (p * j + i)))) := by
  have hlt := idx_lt hi hj
  obtain ⟨u, hu⟩ : ∃ u, u = p * j + i := ⟨_, rfl⟩
  have hpl := place_any X Y p q i j
  rw [← hu] at hlt hpl ⊢
  obtain ⟨b, off, hA, hb, hR⟩ := hF k hk (by omega)
  have c0 := hbr.cell 0
  have c1 := hbr.cell 1
  have c2 := hbr.cell 2
  have c3 := hbr.cell 3
  have ck := hbp.cell k
  rw [pls_get _ _ _ _ hk, hA] at ck
  simp at c0 c1 c2 c3
  have lp := hbp.lt
  have ls := hR u (by omega)
  have k1 : (0 : Int) ≤ (k : Int) := by omega
  have k2 : (k : Int) < 4 := by omega
  have u1 : (0 : Int) ≤ (u : Int) := by omega
  have u2 : (u : Int) < (m : Int) := by omega
  have HPL : RowKit.Hid (∀ w, Calls Try.prog 88 #[reg X Y p q, .int .i64 (X + i), .int .i64 (Y + j)] w fun e w' => e = .returned (.int .i64 (u : Nat)) ∧ Below w.heap.size w w') := hid fun w => hpl w hi hj hp2 hq2 x1 x2
  clear hbp hbr hF hpl hu hR hA hm hlt
  go_enter Try.func87, Try.ntmps87
  go_wp2
  go_region_with (go_at_call 88; refine (HPL.out _).mono ?_; rintro e w1 ⟨rfl, hb1⟩; have HB1 : RowKit.Hid (Below w.heap.size w w1) := (Below.refl _ _).drew.trans hb1; have ck1 : w1.cell? ⟨bp, k, none⟩ = _ := (HB1.out.cell (p := ⟨bp, k, none⟩) lp).trans ck; have ls1 : w1.cell? ⟨b, off + u, none⟩ = _ := (HB1.out.cell (p := ⟨b, off + u, none⟩) hb).trans ls; clear hb1)
  all_goals
    go_wp2
    go_ret
    exact ⟨_, rfl, rfl, HB1.out⟩
/-- The error of planes, the first k looked at. -/
def plK (x y a b : Int) (n : Nat → Nat) (k : Nat) : Int := if regE x y a b = 0 then (if ∀ j, j < k → (n j : Int) = a * b then 0 else 2) else regE x y a b
section
variable {x y a b : Int} {n : Nat → Nat} {k : Nat}
theorem plK_bad (h : ¬ regE x y a b = 0) : plK x y a b n k = regE x y a b := by unfold plK; rw [if_neg h]
theorem plK_ok (h : regE x y a b = 0) (h2 : ∀ j, j < k → (n j : Int) = a * b) : plK x y a b n k = 0 := by unfold plK; rw [if_pos h, if_pos h2]
theorem plK_form (h : regE x y a b = 0) (h2 : ¬ ∀ j, j < k → (n j : Int) = a * b) : plK x y a b n k = 2 := by unfold plK; rw [if_pos h, if_neg h2]
theorem plK_zero : plK x y a b n 0 = regE x y a b := by
  by_cases h : regE x y a b = 0
  · rw [plK_ok h (fun j hj => absurd hj (by omega)), h]
  · exact plK_bad h
theorem plK_of_zero (h : plK x y a b n k = 0) : regE x y a b = 0 ∧ ∀ j, j < k → (n j : Int) = a * b := by
  by_cases h1 : regE x y a b = 0
  · refine ⟨h1, ?_⟩
    by_cases h2 : ∀ j, j < k → (n j : Int) = a * b
    · exact h2
    · rw [plK_form h1 h2] at h; cases h
  · rw [plK_bad h1] at h; exact absurd h h1
theorem all_succ {P : Nat → Prop} (h : ∀ j, j < k → P j) (h2 : P k) : ∀ j, j < k + 1 → P j := fun j hj => by
  rcases Nat.lt_or_ge j k with h3 | h3
  · exact h j h3
  · have : j = k := by omega
    subst this; exact h2
theorem plK_step_yes (h : plK x y a b n k = 0) (h2 : (n k : Int) = a * b) : plK x y a b n (k + 1) = 0 := plK_ok (plK_of_zero h).1 (all_succ (plK_of_zero h).2 h2)
theorem plK_step_no (h : plK x y a b n k = 0) (h2 : ¬ (n k : Int) = a * b) : plK x y a b n (k + 1) = 2 := plK_form (plK_of_zero h).1 (fun hh => h2 (hh k (by omega)))
theorem plK_step_off (h : ¬ plK x y a b n k = 0) : plK x y a b n (k + 1) = plK x y a b n k := by
  by_cases h1 : regE x y a b = 0
  · have h2 : ¬ ∀ j, j < k → (n j : Int) = a * b := fun hh => h (plK_ok h1 hh)
    rw [plK_form h1 h2, plK_form h1 (fun hh => h2 (fun j hj => hh j (by omega)))]
  · rw [plK_bad h1, plK_bad h1]
end

/-- What FromPlanes gives at least: its error, and no singles with one. -/
def FromSome (w : World) (E : Int) (e : Ending) (w' : World) : Prop :=
  ∃ (x y a b : Int) (A : Option Addr) (n c : Nat), e = .returned (.tuple #[frm x y a b A n c, .int .i64 E]) ∧ (E ≠ 0 → n = 0) ∧ Below w.heap.size w w'
/-- A frame and no error. -/
def FramedOk (w : World) (X Y : Int) (p q m : Nat) (F : Nat → Nat) (e : Ending) (w' : World) : Prop :=
  ∃ b c, e = .returned (.tuple #[frm X Y p q (some ⟨b, 0, none⟩) m c, .int .i64 0]) ∧ m ≤ c ∧ c ≤ maxLen ∧ w.heap.size ≤ b ∧ b < w'.heap.size ∧ Rd w' b 0 m F ∧ Below w.heap.size w w'

theorem enters_from1 (args : Array Value) (w : World) : (callFunc 87 args).run Try.prog w = .ok (.enter 87 args) w := enters_of Try.func87 (by kernel_rfl) rfl args w

set_option maxRecDepth 100000 in
set_option maxHeartbeats 1000000 in
theorem fromPlanes_bad (x y a b : Int) (A : Nat → Option Addr) (n c : Nat → Nat) (w : World) (h : ¬ regE x y a b = 0) :
    Calls Try.prog 46 #[reg x y a b, .agg (pls A n c)] w (FromSome w (plK x y a b n 4)) := by
  have z1 : (regE x y a b != 0) = true := by simp [h]
  have H := hid (plK_bad (n := n) (k := 4) h)
  clear h
  go_enter Try.func46, Try.ntmps46
  go_wp2_with fail
  refine (checkRegion_any _ _ _ _ _).mono ?_
  rintro e w1 ⟨rfl, hb⟩
  have hr : Blk w1 (w.heap.size + 1 + 1) 39 zfrm := (Blk.new_at _ _ _ (by simp)).below hb (by simp)
  have HBE : RowKit.Hid (Below w.heap.size w w1) := ((((Below.refl _ _).alloc (Nat.le_refl _) _).alloc (by simp) _).alloc (by simp; omega) _).trans (hb.mono (by simp; omega))
  have z2 := hr.cell 0
  have z3 := hr.cell 1
  have z4 := hr.cell 2
  have z5 := hr.cell 3
  have z6 := hr.cell 4
  have fz := fun i => hr.frozen i
  simp at z2 z3 z4 z5 z6
  have hblk := hr.set5 (.int .i64 0) (.int .i64 0) (.int .i64 0) (.int .i64 0) (.slice none 0 0)
  have HBK := hid hblk
  clear hb hr hblk
  go_wp2
  refine bodyPost_ret (v := .tuple #[.agg zfrm, .int .i64 (regE x y a b)]) (results_row_tmp rfl _ _ _ _ _ _ rfl rfl HBK.out Try.underlying39 rfl (by kernel_rfl)) rfl ?_
  exact ⟨0, 0, 0, 0, none, 0, 0, by rw [H.out], fun _ => rfl, below_set5 HBE.out (by omega) _ _ _ _ _⟩

set_option maxRecDepth 100000 in
set_option maxHeartbeats 1000000 in
theorem fromPlanes_form (x y a b : Int) (A : Nat → Option Addr) (n c : Nat → Nat) (w : World) (h : regE x y a b = 0) (h2 : ¬ ∀ j, j < 4 → (n j : Int) = a * b) :
    Calls Try.prog 46 #[reg x y a b, .agg (pls A n c)] w (FromSome w (plK x y a b n 4)) := by
  have z1 : (regE x y a b != 0) = false := by simp [h]
  have H := hid (plK_form (n := n) (k := 4) h h2)
  have H2 := hid h2
  obtain ⟨a1, a2, b1, b2, ab, _⟩ := regE_zero h
  obtain ⟨p1, p2⟩ := prod_le a1 a2 b1 b2
  clear h h2
  go_enter Try.func46, Try.ntmps46
  go_wp2_with fail
  refine (checkRegion_any _ _ _ _ _).mono ?_
  rintro e w1 ⟨rfl, hb⟩
  have hr : Blk w1 (w.heap.size + 1 + 1) 39 zfrm := (Blk.new_at _ _ _ (by simp)).below hb (by simp)
  have hp : Blk w1 (w.heap.size + 1) 65 (pls A n c) := ((Blk.new_at _ _ _ (by simp)).alloc _).below hb (by simp)
  have hg : Blk w1 w.heap.size 23 #[.int .i64 x, .int .i64 y, .int .i64 a, .int .i64 b] := (((Blk.new_at _ _ _ rfl).alloc _).alloc _).below hb (by simp; omega)
  have HBE : RowKit.Hid (Below w.heap.size w w1) := ((((Below.refl _ _).alloc (Nat.le_refl _) _).alloc (by simp) _).alloc (by simp; omega) _).trans (hb.mono (by simp; omega))
  have z2 := hr.cell 0
  have z3 := hr.cell 1
  have z4 := hr.cell 2
  have z5 := hr.cell 3
  have z6 := hr.cell 4
  have fz := fun i => hr.frozen i
  have e0 := hp.cell 0
  have e1 := hp.cell 1
  have e2 := hp.cell 2
  have e3 := hp.cell 3
  have g2 := hg.cell 2
  have g3 := hg.cell 3
  simp at z2 z3 z4 z5 z6 e0 e1 e2 e3 g2 g3
  have hblk := hr.set5 (.int .i64 0) (.int .i64 0) (.int .i64 0) (.int .i64 0) (.slice none 0 0)
  have HBK := hid hblk
  clear hb hr hblk hp hg
  go_wp2
  go_loop [16] (fun i => ∃ k : Nat, k ≤ 4 ∧ i = .int .i64 k ∧ RowKit.Hid (∀ j, j < k → (n j : Int) = a * b)) (fun i => 4 - (intOf i).toNat)
  case atStart => exact ⟨0, by omega, rfl, fun j hj => absurd hj (by omega)⟩
  case round =>
    obtain ⟨k, hk, rfl, hall⟩ := hrel
    by_cases hk4 : k < 4
    · have hidx := run_index_sl (fun i => .slice (A i) (n i) (c i)) k hk4
      by_cases hnk : (n k : Int) = a * b
      · have zz : ((n k : Int) != a * b) = false := by simp [hnk]
        have HK := hid hnk
        clear hnk
        go_wp2
        go_round
        case rel => exact ⟨k + 1, by omega, by go_num, all_succ hall.out HK.out⟩
        case measure => simp [intOf]; omega
      · have zz : ((n k : Int) != a * b) = true := by simp [hnk]
        clear hnk
        go_wp2
        refine bodyPost_ret (v := .tuple #[.agg zfrm, .int .i64 2]) (results_row_tmp rfl _ _ _ _ _ _ rfl rfl HBK.out Try.underlying39 rfl (by kernel_rfl)) rfl ?_
        exact ⟨0, 0, 0, 0, none, 0, 0, by rw [H.out], fun _ => rfl, below_set5 HBE.out (by omega) _ _ _ _ _⟩
    · exfalso
      have : k = 4 := by omega
      subst this
      exact H2.out hall.out

set_option maxRecDepth 100000 in
set_option maxHeartbeats 2000000 in
theorem fromPlanes_ok (X Y : Int) (p q m : Nat) (A : Nat → Option Addr) (c : Nat → Nat) (F : Nat → Nat → Nat) (w : World) (h : regE X Y p q = 0) (hm : m = p * q) (hF : ∀ k, k < 4 → Src w (A k) m (F k)) :
    Calls Try.prog 46 #[reg X Y p q, .agg (pls A (fun _ => m) c)] w (FramedOk w X Y p q (4 * m) fun t => cl (F (t % 4) (t / 4))) := by
  have z1 : (regE X Y p q != 0) = false := by simp [h]
  obtain ⟨a1, a2, b1, b2, ab, x1, x2, y1, y2⟩ := regE_zero h
  have hmi : (p : Int) * (q : Int) = (m : Int) := by rw [hm]; simp
  have hmm : m ≤ 16384 := by omega
  have hm0 : 1 ≤ (m : Int) := by rw [← hmi]; exact (prod_le a1 a2 b1 b2).1
  have zz2 : ((m : Int) != (m : Int)) = false := by simp
  clear h
  obtain ⟨w3, hw3⟩ : ∃ w3, w3 = (((w.alloc (.cells #[.int .i64 X, .int .i64 Y, .int .i64 p, .int .i64 q] 23)).alloc (.cells (pls A (fun _ => m) c) 65)).alloc (.cells zfrm 39)) := ⟨_, rfl⟩
  have hg : Blk w3 w.heap.size 23 #[.int .i64 X, .int .i64 Y, .int .i64 p, .int .i64 q] := by rw [hw3]; exact ((Blk.new_at _ _ _ rfl).alloc _).alloc _
  have hp : Blk w3 (w.heap.size + 1) 65 (pls A (fun _ => m) c) := by rw [hw3]; exact (Blk.new_at _ _ _ (by simp)).alloc _
  have hr : Blk w3 (w.heap.size + 1 + 1) 39 zfrm := by rw [hw3]; exact Blk.new_at _ _ _ (by simp)
  have hbel : Below w.heap.size w w3 := by rw [hw3]; exact (((Below.refl _ _).alloc (Nat.le_refl _) _).alloc (by simp) _).alloc (by simp; omega) _
  have HG := hid hg
  have HP := hid hp
  have HR := hid hr
  have HBE := hid hbel
  have HW3 := hid hw3
  have HBU : RowKit.Hid (∀ w1, Below w3.heap.size w3 w1 → Calls Try.prog 63 #[reg X Y p q, .func (.func 87) #[] #[.pointer (some ⟨w.heap.size + 1, 0, none⟩), .pointer (some ⟨w.heap.size, 0, none⟩)]] w1 (Framed w1 X Y p q (4 * m) (gI (fun i j k => cl (F k (p * j + i))) p))) := by
    intro w1 hb1
    refine build_any 87 #[.pointer (some ⟨w.heap.size + 1, 0, none⟩), .pointer (some ⟨w.heap.size, 0, none⟩)] enters_from1 X Y p q (4 * m) (fun i j k => cl (F k (p * j + i))) w1 (by rw [hm]) (by omega) (by omega) (by omega) (by omega) (by omega) (by omega) (by omega) (by omega) (by omega) ?_
    intro i j k w2 hi hj hk hb2
    have hb := hb1.trans (hb2.mono hb1.size)
    exact fromPix_any X Y p q m i j k (w.heap.size + 1) w.heap.size A c F w2 hi hj hk hm hmm (by omega) (by omega) (by omega) (by omega) (fun k hk => ((hF k hk).below hbel).below hb) (hp.below hb hp.lt) (hg.below hb hg.lt)
  clear hg hp hr hbel hw3 hF hm
  have hmf : ∀ (fn : Fn) (first cap : Array Value) (w : World), (Instr.makeFunc fn first cap).run Try.prog w = .ok (.func fn first cap) w := fun _ _ _ _ => rfl
  go_enter Try.func46, Try.ntmps46
  go_wp2_with fail
  rw [← HW3.out]
  refine (checkRegion_any _ _ _ _ _).mono ?_
  rintro e w1 ⟨rfl, hb⟩
  have hp1 := HP.out.below hb HP.out.lt
  have hg1 := HG.out.below hb HG.out.lt
  have e0 := hp1.cell 0
  have e1 := hp1.cell 1
  have e2 := hp1.cell 2
  have e3 := hp1.cell 3
  have g0 := hg1.cell 0
  have g1 := hg1.cell 1
  have g2 := hg1.cell 2
  have g3 := hg1.cell 3
  simp at e0 e1 e2 e3 g0 g1 g2 g3
  have HB := hid hb
  clear hb hp1 hg1
  go_wp2
  go_loop [16] (fun i => ∃ k : Nat, k ≤ 4 ∧ i = .int .i64 k) (fun i => 4 - (intOf i).toNat)
  case atStart => exact ⟨0, by omega, rfl⟩
  case round =>
    obtain ⟨k, hk, rfl⟩ := hrel
    by_cases hk4 : k < 4
    · have hidx := run_index_sl (fun i => .slice (A i) m (c i)) k hk4
      go_wp2
      go_round
      case rel => exact ⟨k + 1, by omega, by go_num⟩
      case measure => simp [intOf]; omega
    · go_wp2_with fail
      refine (HBU.out _ HB.out).mono ?_
      rintro e w4 ⟨b, c', rfl, q1, q2, q3, q4, q5, q6⟩
      have hr4 := (HR.out.below HB.out HR.out.lt).below q6 (HR.out.below HB.out HR.out.lt).lt
      have z2 := hr4.cell 0
      have z3 := hr4.cell 1
      have z4 := hr4.cell 2
      have z5 := hr4.cell 3
      have z6 := hr4.cell 4
      have fz := fun i => hr4.frozen i
      simp at z2 z3 z4 z5 z6
      have hblk := hr4.set5 (.int .i64 X) (.int .i64 Y) (.int .i64 p) (.int .i64 q) (.slice (some ⟨b, 0, none⟩) (4 * m) c')
      have HBK := hid hblk
      have HQ := hid (And.intro q5 (below_to (below_to HBE.out HB.out) q6))
      have hs3 := HR.out.lt
      have hs4 := HB.out.size
      clear hr4 hblk q5 q6
      go_wp2
      refine bodyPost_ret (v := .tuple #[frm X Y p q (some ⟨b, 0, none⟩) (4 * m) c', .int .i64 0]) (results_row_tmp rfl _ _ _ _ _ _ rfl rfl HBK.out Try.underlying39 rfl (by kernel_rfl)) rfl ?_
      refine ⟨b, c', rfl, q1, q2, by omega, by rw [size_set5]; exact q4, ?_, below_set5 HQ.out.2 (by omega) _ _ _ _ _⟩
      intro i hi
      have := HQ.out.1.far5 (g := w.heap.size + 1 + 1) (by omega) (.int .i64 X) (.int .i64 Y) (.int .i64 p) (.int .i64 q) (.slice (some ⟨b, 0, none⟩) (4 * m) c') i hi
      rw [this]
      show some (Value.float .f32 (cl (F (i % 4) (p * (i / 4 / p) + i / 4 % p)))) = some (Value.float .f32 (cl (F (i % 4) (i / 4))))
      rw [Nat.div_add_mod]
end Go.Proofs.Ytjlghjblpbckfaa
