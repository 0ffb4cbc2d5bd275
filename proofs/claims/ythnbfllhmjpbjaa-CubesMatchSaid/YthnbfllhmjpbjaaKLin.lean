/-
  Cubes: linear.
-/
import Derived.Test.YthnbfllhmjpbjaaKLerp
import Derived.Deep.DeepCutAuto
import Derived.LoopTactic
namespace Go.Proofs.Ythnbfllhmjpbjaa
open Go.RowKit
attribute [local go_sem] run_store_float

/-- Eight rows of three. -/
structure Tab (w : World) (b : Nat) (V : Nat → Nat → Nat) : Prop where
  ex : ∃ cs : Array Value, Blk w b 145 cs ∧ cs.size = 24 ∧ ∀ m i, m < 8 → i < 3 → cs[m * 3 + i]? = some (.float .f32 (V m i))
section
variable {w w2 : World} {b : Nat} {V : Nat → Nat → Nat}
theorem Tab.cell (h : Tab w b V) (m i : Nat) (hm : m < 8) (hi : i < 3) : w.cell? ⟨b, m * 3 + i, none⟩ = some (.float .f32 (V m i)) := by
  obtain ⟨cs, h1, _, h3⟩ := h.ex
  rw [h1.cell, h3 m i hm hi]
theorem Tab.cell0 (h : Tab w b V) (m : Nat) (hm : m < 8) : w.cell? ⟨b, m * 3, none⟩ = some (.float .f32 (V m 0)) := h.cell m 0 hm (by decide)
theorem Tab.open_ (h : Tab w b V) (i : Nat) : w.frozen? ⟨b, i, none⟩ = false := by
  obtain ⟨cs, h1, _, _⟩ := h.ex
  exact h1.frozen i
theorem Tab.lt (h : Tab w b V) : b < w.heap.size := by
  obtain ⟨cs, h1, _, _⟩ := h.ex
  exact h1.lt
theorem Tab.below (h : Tab w b V) (hb : Below w.heap.size w w2) : Tab w2 b V := by
  obtain ⟨cs, h1, h2, h3⟩ := h.ex
  exact ⟨cs, h1.below hb h1.lt, h2, h3⟩
theorem Tab.alloc (h : Tab w b V) (o : Obj) : Tab (w.alloc o) b V := by
  obtain ⟨cs, h1, h2, h3⟩ := h.ex
  exact ⟨cs, h1.alloc o, h2, h3⟩
theorem Tab.far (h : Tab w b V) {p : Addr} (hp : b ≠ p.block) (u : Value) : Tab (w.setCell p u) b V := by
  obtain ⟨cs, h1, h2, h3⟩ := h.ex
  exact ⟨cs, h1.far hp u, h2, h3⟩
theorem Tab.drewN (h : Tab w b V) (n : Nat) : Tab (w.drewN n) b V := by
  obtain ⟨cs, h1, h2, h3⟩ := h.ex
  exact ⟨cs, h1, h2, h3⟩
theorem Tab.drew (h : Tab w b V) : Tab w.drew b V := by
  obtain ⟨cs, h1, h2, h3⟩ := h.ex
  exact ⟨cs, h1, h2, h3⟩
theorem Tab.row (h : Tab w b V) (n : Nat) (hn : n < 8) (g : Nat → Nat) :
    Tab (((w.setCell ⟨b, n * 3, none⟩ (.float .f32 (g 0))).setCell ⟨b, n * 3 + 1, none⟩ (.float .f32 (g 1))).setCell ⟨b, n * 3 + 2, none⟩ (.float .f32 (g 2))) b (fun m i => if m = n then g i else V m i) := by
  obtain ⟨cs, h1, h2, h3⟩ := h.ex
  refine ⟨_, ((h1.set_ (n * 3) (.float .f32 (g 0))).set_ (n * 3 + 1) (.float .f32 (g 1))).set_ (n * 3 + 2) (.float .f32 (g 2)), by simp [h2], ?_⟩
  intro m i hm hi
  have h0 := h3 m i hm hi
  simp only [Array.getElem?_setIfInBounds, Array.size_setIfInBounds, h2]
  by_cases e : m = n
  · subst e
    have hi3 : i = 0 ∨ i = 1 ∨ i = 2 := by omega
    have l0 : m * 3 < 24 := by omega
    have l1 : m * 3 + 1 < 24 := by omega
    have l2 : m * 3 + 2 < 24 := by omega
    rcases hi3 with rfl | rfl | rfl <;> simp [l0, l1, l2]
  · rw [if_neg (by omega), if_neg (by omega), if_neg (by omega), if_neg e]
    exact h0
end

/-- The corners of a cell. -/
def linE (s : Nat) (F a : Nat → Nat) (n i : Nat) : Nat := F (eIx s (a 0 + n / 2 ^ 0 % 2) (a 1 + n / 2 ^ 1 % 2) (a 2 + n / 2 ^ 2 % 2) + i)
/-- Two rows become one. -/
def stg (V : Nat → Nat → Nat) (t n i : Nat) : Nat := lerpC (V (2 * n) i) (V (2 * n + 1) i) t
def linC (s : Nat) (F a x : Nat → Nat) (i : Nat) : Nat := stg (stg (stg (linE s F a) (x 0)) (x 1)) (x 2) 0 i

def stgK (s : Nat) (F a x : Nat → Nat) : Nat → Nat → Nat → Nat
  | 0 => linE s F a
  | k + 1 => stg (stgK s F a x k) (x k)

structure LnR (s L H n c : Nat) (A : Option Addr) (a x : Nat → Nat) (w : World) (V : Nat → Nat → Nat) (wr : World) : Prop where
  b0 : Blk wr w.heap.size 25 #[.int .i64 s, .float .f32 L, .float .f32 H, .slice A n c]
  b1 : Blk wr (w.heap.size + 1) 140 (spotA a x)
  b2 : Blk wr (w.heap.size + 1 + 1) 30 zarr
  b3 : Tab wr (w.heap.size + 1 + 1 + 1) V
  be : Below w.heap.size w wr
section
variable {s L H n c : Nat} {A : Option Addr} {a x : Nat → Nat} {w wr w2 : World} {V : Nat → Nat → Nat}
theorem LnR.below (h : LnR s L H n c A a x w V wr) (hb : Below wr.heap.size wr w2) : LnR s L H n c A a x w V w2 :=
  ⟨h.b0.below hb h.b0.lt, h.b1.below hb h.b1.lt, h.b2.below hb h.b2.lt, h.b3.below hb, below_to h.be hb⟩
theorem LnR.alloc (h : LnR s L H n c A a x w V wr) (o : Obj) : LnR s L H n c A a x w V (wr.alloc o) :=
  h.below ((Below.refl _ _).alloc (Nat.le_refl _) _)
theorem LnR.row (h : LnR s L H n c A a x w V wr) (k : Nat) (hk : k < 8) (g : Nat → Nat) :
    LnR s L H n c A a x w (fun m i => if m = k then g i else V m i) (((wr.setCell ⟨w.heap.size + 1 + 1 + 1, k * 3, none⟩ (.float .f32 (g 0))).setCell ⟨w.heap.size + 1 + 1 + 1, k * 3 + 1, none⟩ (.float .f32 (g 1))).setCell ⟨w.heap.size + 1 + 1 + 1, k * 3 + 2, none⟩ (.float .f32 (g 2))) :=
  ⟨((h.b0.far (by dsimp only; omega) _).far (by dsimp only; omega) _).far (by dsimp only; omega) _, ((h.b1.far (by dsimp only; omega) _).far (by dsimp only; omega) _).far (by dsimp only; omega) _, ((h.b2.far (by dsimp only; omega) _).far (by dsimp only; omega) _).far (by dsimp only; omega) _,
    h.b3.row k hk g, ((h.be.setCell (p := ⟨w.heap.size + 1 + 1 + 1, k * 3, none⟩) (by simp; omega) _).setCell (p := ⟨w.heap.size + 1 + 1 + 1, k * 3 + 1, none⟩) (by simp; omega) _).setCell (p := ⟨w.heap.size + 1 + 1 + 1, k * 3 + 2, none⟩) (by simp; omega) _⟩
theorem LnR.drew (h : LnR s L H n c A a x w V wr) : LnR s L H n c A a x w V wr.drew := ⟨h.b0, h.b1, h.b2, h.b3.drew, h.be.drew⟩
theorem LnR.drewN (h : LnR s L H n c A a x w V wr) (k : Nat) : LnR s L H n c A a x w V (wr.drewN k) := ⟨h.b0, h.b1, h.b2, h.b3.drewN k, below_drewN h.be k⟩
end

theorem Ax.put {w : World} {b : Nat} {d : Nat → Nat} (h : Ax w b d) (i v : Nat) (hi : i < 3) : Ax (w.setCell ⟨b, i, none⟩ (.int .i64 (v : Int))) b (fun ax => if ax = i then v else d ax) := by
  have := Blk.set_ h i (.int .i64 (v : Int))
  unfold Ax
  have h1 : i = 0 ∨ i = 1 ∨ i = 2 := by omega
  rcases h1 with rfl | rfl | rfl <;> simpa using this
theorem Ax.congr {w : World} {b : Nat} {d e : Nat → Nat} (h : Ax w b d) (he : ∀ i, i < 3 → d i = e i) : Ax w b e := by
  unfold Ax at h ⊢
  rw [← he 0 (by omega), ← he 1 (by omega), ← he 2 (by omega)]
  exact h
theorem bit_of {k j : Nat} (hk : k < 8) (hj : j < 3) : bits .and .i64 ((k : Int) / 2 ^ j) 1 = ((k / 2 ^ j % 2 : Nat) : Int) := by
  have h8 : k = 0 ∨ k = 1 ∨ k = 2 ∨ k = 3 ∨ k = 4 ∨ k = 5 ∨ k = 6 ∨ k = 7 := by omega
  have h3 : j = 0 ∨ j = 1 ∨ j = 2 := by omega
  rcases h8 with rfl | rfl | rfl | rfl | rfl | rfl | rfl | rfl <;> rcases h3 with rfl | rfl | rfl <;> decide +kernel

set_option maxRecDepth 100000 in
set_option maxHeartbeats 4000000 in
theorem linear_any (s L H n c : Nat) (A : Option Addr) (F a x : Nat → Nat) (w : World) (hC : CubOk s L H n) (ha : ∀ k, k < 3 → a k + 2 ≤ s) (hnc : n ≤ c) (hF : Src w A n F) :
    Calls Try.prog 70 #[cub s L H A n c, .agg (spotA a x)] w (Gave3 w (linC s F a x)) := by
  have HC := hid hC
  have HA := hid ha
  have HF : RowKit.Hid (∀ w1, Below w.heap.size w w1 → Src w1 A n F) := hid fun w1 h => hF.below h
  have q1 := hC.s2
  clear hC ha hF
  go_enter Try.func70, Try.ntmps70
  go_wp2_with fail
  go_loopw [13] (fun i wr => ∃ (k : Nat) (V : Nat → Nat → Nat), k ≤ 8 ∧ i = .int .i64 k ∧ (∀ m i, m < k → i < 3 → V m i = linE s F a m i) ∧ LnR s L H n c A a x w V wr) (fun i _ => 8 - (intOf i).toNat)
  case atStart =>
    refine ⟨0, fun _ _ => 0, by omega, rfl, fun m i hm => absurd hm (by omega), ⟨(((Blk.new_at _ _ _ rfl).alloc _).alloc _).alloc _, ((Blk.new_at _ _ _ (by simp)).alloc _).alloc _, (Blk.new_at _ _ _ (by simp)).alloc _, ⟨_, Blk.new_at _ _ _ (by simp), by simp, ?_⟩, ?_⟩⟩
    · intro m i hm hi
      have h8 : m = 0 ∨ m = 1 ∨ m = 2 ∨ m = 3 ∨ m = 4 ∨ m = 5 ∨ m = 6 ∨ m = 7 := by omega
      have h3 : i = 0 ∨ i = 1 ∨ i = 2 := by omega
      rcases h8 with rfl | rfl | rfl | rfl | rfl | rfl | rfl | rfl <;> rcases h3 with rfl | rfl | rfl <;> rfl
    · exact ((((Below.refl _ _).alloc (Nat.le_refl _) _).alloc (by simp) _).alloc (by simp; omega) _).alloc (by simp; omega) _
  case round =>
    obtain ⟨k, V, hk, rfl, hV, hrel⟩ := hrel
    have HV := hid hV
    have HR := hid hrel
    clear hV
    by_cases hlt : k < 8
    · have d0 := hrel.b1.cell 0
      have d1 := hrel.b1.cell 1
      have d2 := hrel.b1.cell 2
      simp at d0 d1 d2
      clear hrel
      obtain ⟨wo, rfl⟩ : ∃ wo : World, wo = wr := ⟨_, rfl⟩
      go_wp2
      go_loopw [18] (fun i w2 => ∃ j : Nat, j ≤ 3 ∧ i = .int .i64 j ∧ LnR s L H n c A a x w V w2 ∧ Ax w2 wo.heap.size (fun ax => if ax < j then a ax + k / 2 ^ ax % 2 else a ax)) (fun i _ => 3 - (intOf i).toNat)
      case atStart => exact ⟨0, by omega, rfl, HR.out.alloc _, Blk.new_at _ _ _ rfl⟩
      case round =>
        clear d0 d1 d2
        obtain ⟨j, hj, rfl, hrel, hax⟩ := hrel
        have HR2 := hid hrel
        have HX := hid hax
        by_cases hjlt : j < 3
        · have g1 := hax.cell j hjlt
          have gf := fun i => hax.open_ i
          have g3 : (j : Int) < 3 := by omega
          rw [if_neg (by omega)] at g1
          have g4 := HA.out j hjlt
          have g5 : ((a j : Nat) : Int) ≤ 20 := by omega
          have hbit := bit_of hlt hjlt
          obtain ⟨u, hu⟩ : ∃ u, u = k / 2 ^ j % 2 := ⟨_, rfl⟩
          rw [← hu] at hbit
          have hu1 : (u : Int) ≤ 1 := by have : u < 2 := by rw [hu]; exact Nat.mod_lt _ (by decide)
                                         omega
          have HU := hid hu
          clear hrel hax hu
          go_wp2
          go_region
          go_wp2
          go_roundw
          case rel =>
            refine ⟨j + 1, by omega, by go_num, ⟨HR2.out.b0.far (by dsimp only; have := HR.out.b0.lt; omega) _, HR2.out.b1.far (by dsimp only; have := HR.out.b1.lt; omega) _, HR2.out.b2.far (by dsimp only; have := HR.out.b2.lt; omega) _, (HR2.out.b3.far (p := ⟨wo.heap.size, j, none⟩) (by dsimp only; have := HR.out.b3.lt; omega) _).drew, (HR2.out.be.setCell (p := ⟨wo.heap.size, j, none⟩) (by have := HR.out.be.size; simpa using this) _).drew⟩, ?_⟩
            have := HX.out.put j (a j + u) hjlt
            have e : (((a j + u : Nat) : Int)) = (a j : Int) + (u : Int) := by simp
            rw [e] at this
            refine Ax.congr (Ax.drew this) fun ax hax => ?_
            by_cases h : ax = j
            · subst h; rw [if_pos rfl, if_pos (by omega), HU.out]
            · rw [if_neg h]
              by_cases h' : ax < j
              · rw [if_pos h', if_pos (by omega)]
              · rw [if_neg h', if_neg (by omega)]
          case measure => simp [intOf]; omega
        · obtain rfl : j = 3 := by omega
          have hax2 : Ax wr wo.heap.size (fun ax => a ax + k / 2 ^ ax % 2) := hax.congr fun i hi => by rw [if_pos hi]
          have f0 := hax2.cell 0 (by omega)
          have f1 := hax2.cell 1 (by omega)
          have f2 := hax2.cell 2 (by omega)
          have c0 := hrel.b0.cell 0
          have c1 := hrel.b0.cell 1
          have c2 := hrel.b0.cell 2
          have c3 := hrel.b0.cell 3
          simp only [List.getElem?_toArray, List.getElem?_cons_zero, List.getElem?_cons_succ] at c0 c1 c2 c3
          have l0 := HA.out 0 (by omega)
          have l1 := HA.out 1 (by omega)
          have l2 := HA.out 2 (by omega)
          have m0 : k / 2 ^ 0 % 2 < 2 := Nat.mod_lt _ (by decide)
          have m1 : k / 2 ^ 1 % 2 < 2 := Nat.mod_lt _ (by decide)
          have m2 : k / 2 ^ 2 % 2 < 2 := Nat.mod_lt _ (by decide)
          have HENT := hid (entry_any s L H n c (a 0 + k / 2 ^ 0 % 2) (a 1 + k / 2 ^ 1 % 2) (a 2 + k / 2 ^ 2 % 2) A F wr HC.out (by omega) (by omega) (by omega) hnc (HF.out _ hrel.be))
          have HLE : RowKit.Hid (∀ i, F (eIx s (a 0 + k / 2 ^ 0 % 2) (a 1 + k / 2 ^ 1 % 2) (a 2 + k / 2 ^ 2 % 2) + i) = linE s F a k i) := hid fun _ => rfl
          generalize a 0 + k / 2 ^ 0 % 2 = r0 at *
          generalize a 1 + k / 2 ^ 1 % 2 = r1 at *
          generalize a 2 + k / 2 ^ 2 % 2 = r2 at *
          clear hrel hax hax2 m0 m1 m2 l0 l1 l2
          go_wp2_with fail
          refine HENT.out.mono ?_
          rintro e w4 ⟨rfl, hb4⟩
          have hr4 := HR2.out.below hb4
          have HR4 := hid hr4
          have e0 := hr4.b3.cell0 k hlt
          have e1 := hr4.b3.cell k 1 hlt (by omega)
          have e2 := hr4.b3.cell k 2 hlt (by omega)
          have ef := fun i => hr4.b3.open_ i
          have k8 : (k : Int) < 8 := by omega
          have n1 : ¬ k * 3 = k * 3 + 1 := by omega
          have n2 : ¬ k * 3 = k * 3 + 2 := by omega
          have n3 : ¬ k * 3 + 1 = k * 3 + 2 := by omega
          clear hb4 hr4 HENT f0 f1 f2 c0 c1 c2 c3 HR2 HX
          go_wp2
          go_roundw
          case rel =>
            refine ⟨k + 1, _, by omega, by go_num, ?_, HR4.out.row k hlt (fun i => F (eIx s r0 r1 r2 + i))⟩
            intro m i hm hi
            by_cases e : m = k
            · rw [if_pos e, e, HLE.out]
            · rw [if_neg e]; exact HV.out m i (by omega) hi
          case measure => simp [intOf]; omega
    · obtain rfl : k = 8 := by omega
      have d0 := hrel.b1.cell 3
      have d1 := hrel.b1.cell 4
      have d2 := hrel.b1.cell 5
      simp at d0 d1 d2
      clear hrel
      go_wp2_with fail
      go_loopw [9, 39] (fun l i wr => ∃ (j : Nat) (V : Nat → Nat → Nat), j ≤ 3 ∧ i = .int .i64 j ∧ l = .int .i64 (([8, 4, 2, 1] : List Int).getD j 0) ∧ (∀ m i, m < 8 / 2 ^ j → i < 3 → V m i = stgK s F a x j m i) ∧ LnR s L H n c A a x w V wr) (fun _ i _ => 3 - (intOf i).toNat)
      case atStart => exact ⟨0, V, by omega, rfl, rfl, fun m i hm hi => HV.out m i hm hi, HR.out⟩
      case round =>
        clear HV HR V d0 d1 d2
        obtain ⟨j, V, hj, rfl, hl, hV, hrel⟩ := hrel
        have HV := hid hV
        have HR := hid hrel
        have hj4 : j = 0 ∨ j = 1 ∨ j = 2 ∨ j = 3 := by omega
        clear hV hj
        have ri0 : ∀ w, (Instr.index 30 (.agg #[.float .f32 (x 0), .float .f32 (x 1), .float .f32 (x 2)]) (.int .i64 0)).run Try.prog w = .ok (.float .f32 (x 0)) w := fun w => run_index_arr x 0 (by omega) w
        have ri1 : ∀ w, (Instr.index 30 (.agg #[.float .f32 (x 0), .float .f32 (x 1), .float .f32 (x 2)]) (.int .i64 1)).run Try.prog w = .ok (.float .f32 (x 1)) w := fun w => run_index_arr x 1 (by omega) w
        have ri2 : ∀ w, (Instr.index 30 (.agg #[.float .f32 (x 0), .float .f32 (x 1), .float .f32 (x 2)]) (.int .i64 2)).run Try.prog w = .ok (.float .f32 (x 2)) w := fun w => run_index_arr x 2 (by omega) w
        rcases hj4 with rfl | rfl | rfl | rfl
        case inl =>
          have hl' : _ = Value.int .i64 8 := hl
          subst hl'
          clear hrel hl
          go_wp2
          go_loopw [45] (fun i wr => ∃ (n0 : Nat) (V' : Nat → Nat → Nat), n0 ≤ 4 ∧ i = .int .i64 n0 ∧ RowKit.Hid (∀ m i, m < n0 → i < 3 → V' m i = stgK s F a x 1 m i) ∧ RowKit.Hid (∀ m i, n0 ≤ m → m < 8 → i < 3 → V' m i = V m i) ∧ LnR s L H n c A a x w V' wr) (fun i _ => 4 - (intOf i).toNat)
          case atStart => exact ⟨0, V, by omega, rfl, hid fun m i hm => absurd hm (by omega), hid fun m i _ _ _ => rfl, HR.out⟩
          case round =>
            clear HR
            obtain ⟨n0, V', hn0, rfl, HU, HO, hrel⟩ := hrel
            have HR := hid hrel
            by_cases hnlt : n0 < 4
            · have e0 := hrel.b3.cell0 (2 * n0) (by omega)
              have e1 := hrel.b3.cell (2 * n0) 1 (by omega) (by omega)
              have e2 := hrel.b3.cell (2 * n0) 2 (by omega) (by omega)
              have f0 := hrel.b3.cell0 (2 * n0 + 1) (by omega)
              have f1 := hrel.b3.cell (2 * n0 + 1) 1 (by omega) (by omega)
              have f2 := hrel.b3.cell (2 * n0 + 1) 2 (by omega) (by omega)
              have n8 : (n0 : Int) < 4 := by omega
              have m8 : 2 * (n0 : Int) < 8 := by omega
              have l8 : 2 * (n0 : Int) + 1 < 8 := by omega
              have o8 : (n0 : Int) < 8 := by omega
              have w1 : IntKind.i64.wrap (2 * (n0 : Int)) = 2 * (n0 : Int) := by rw [IntKind.wrap_i64]; omega
              have w2 : IntKind.i64.wrap (2 * (n0 : Int) + 1) = 2 * (n0 : Int) + 1 := by rw [IntKind.wrap_i64]; omega
              have p1 : 0 ≤ 2 * (n0 : Int) := by omega
              have p2 : 0 ≤ 2 * (n0 : Int) + 1 := by omega
              have t1 : (2 * (n0 : Int)).toNat = 2 * n0 := by omega
              have t2 : (2 * (n0 : Int) + 1).toNat = 2 * n0 + 1 := by omega
              have HN8 : RowKit.Hid (n0 < 8) := hid (by omega)
              clear hrel
              go_wp2
              go_region_with (go_at_call 99; refine (lerp3_any (V' (2 * n0)) (V' (2 * n0 + 1)) (x 0) _).mono ?_; rintro e w4 ⟨rfl, hb4⟩; have hr4 := HR.out.drew.below hb4; have HR4 := hid hr4; have g0 := hr4.b3.cell0 n0 HN8.out; have g1 := hr4.b3.cell n0 1 HN8.out (by decide); have g2 := hr4.b3.cell n0 2 HN8.out (by decide); have gf := fun i => hr4.b3.open_ i; clear hb4 hr4)
              all_goals
                clear w1 w2 p1 p2 t1 t2
                go_wp2
                go_roundw
                case rel =>
                  (repeat apply Exists.intro)
                  refine ⟨⟨n0 + 1, _, by omega, by go_num, hid ?_, hid ?_, HR4.out.row n0 HN8.out (fun i => lerpC (V' (2 * n0) i) (V' (2 * n0 + 1) i) (x 0))⟩, rfl⟩
                  · intro m i hm hi
                    by_cases e : m = n0
                    · rw [if_pos e, e, HO.out (2 * n0) i (by omega) (by omega) hi, HO.out (2 * n0 + 1) i (by omega) (by omega) hi, HV.out (2 * n0) i (by omega) hi, HV.out (2 * n0 + 1) i (by omega) hi]
                      rfl
                    · rw [if_neg e]; exact HU.out m i (by omega) hi
                  · intro m i hm h8 hi
                    rw [if_neg (by omega)]
                    exact HO.out m i (by omega) h8 hi
                case measure => simp [intOf]; omega
            · obtain rfl : n0 = 4 := by omega
              go_wp2
              go_roundw
              case rel => exact ⟨1, V', by omega, by simp, rfl, fun m i hm hi => HU.out m i (by simpa using hm) hi, HR.out⟩
              case measure => simp [intOf]
        case inr.inl =>
          have hl' : _ = Value.int .i64 4 := hl
          subst hl'
          clear hrel hl
          go_wp2
          go_loopw [45] (fun i wr => ∃ (n0 : Nat) (V' : Nat → Nat → Nat), n0 ≤ 2 ∧ i = .int .i64 n0 ∧ RowKit.Hid (∀ m i, m < n0 → i < 3 → V' m i = stgK s F a x 2 m i) ∧ RowKit.Hid (∀ m i, n0 ≤ m → m < 8 → i < 3 → V' m i = V m i) ∧ LnR s L H n c A a x w V' wr) (fun i _ => 2 - (intOf i).toNat)
          case atStart => exact ⟨0, V, by omega, rfl, hid fun m i hm => absurd hm (by omega), hid fun m i _ _ _ => rfl, HR.out⟩
          case round =>
            clear HR
            obtain ⟨n0, V', hn0, rfl, HU, HO, hrel⟩ := hrel
            have HR := hid hrel
            by_cases hnlt : n0 < 2
            · have e0 := hrel.b3.cell0 (2 * n0) (by omega)
              have e1 := hrel.b3.cell (2 * n0) 1 (by omega) (by omega)
              have e2 := hrel.b3.cell (2 * n0) 2 (by omega) (by omega)
              have f0 := hrel.b3.cell0 (2 * n0 + 1) (by omega)
              have f1 := hrel.b3.cell (2 * n0 + 1) 1 (by omega) (by omega)
              have f2 := hrel.b3.cell (2 * n0 + 1) 2 (by omega) (by omega)
              have n8 : (n0 : Int) < 2 := by omega
              have m8 : 2 * (n0 : Int) < 8 := by omega
              have l8 : 2 * (n0 : Int) + 1 < 8 := by omega
              have o8 : (n0 : Int) < 8 := by omega
              have w1 : IntKind.i64.wrap (2 * (n0 : Int)) = 2 * (n0 : Int) := by rw [IntKind.wrap_i64]; omega
              have w2 : IntKind.i64.wrap (2 * (n0 : Int) + 1) = 2 * (n0 : Int) + 1 := by rw [IntKind.wrap_i64]; omega
              have p1 : 0 ≤ 2 * (n0 : Int) := by omega
              have p2 : 0 ≤ 2 * (n0 : Int) + 1 := by omega
              have t1 : (2 * (n0 : Int)).toNat = 2 * n0 := by omega
              have t2 : (2 * (n0 : Int) + 1).toNat = 2 * n0 + 1 := by omega
              have HN8 : RowKit.Hid (n0 < 8) := hid (by omega)
              clear hrel
              go_wp2
              go_region_with (go_at_call 99; refine (lerp3_any (V' (2 * n0)) (V' (2 * n0 + 1)) (x 1) _).mono ?_; rintro e w4 ⟨rfl, hb4⟩; have hr4 := HR.out.drew.below hb4; have HR4 := hid hr4; have g0 := hr4.b3.cell0 n0 HN8.out; have g1 := hr4.b3.cell n0 1 HN8.out (by decide); have g2 := hr4.b3.cell n0 2 HN8.out (by decide); have gf := fun i => hr4.b3.open_ i; clear hb4 hr4)
              all_goals
                clear w1 w2 p1 p2 t1 t2
                go_wp2
                go_roundw
                case rel =>
                  (repeat apply Exists.intro)
                  refine ⟨⟨n0 + 1, _, by omega, by go_num, hid ?_, hid ?_, HR4.out.row n0 HN8.out (fun i => lerpC (V' (2 * n0) i) (V' (2 * n0 + 1) i) (x 1))⟩, rfl⟩
                  · intro m i hm hi
                    by_cases e : m = n0
                    · rw [if_pos e, e, HO.out (2 * n0) i (by omega) (by omega) hi, HO.out (2 * n0 + 1) i (by omega) (by omega) hi, HV.out (2 * n0) i (by omega) hi, HV.out (2 * n0 + 1) i (by omega) hi]
                      rfl
                    · rw [if_neg e]; exact HU.out m i (by omega) hi
                  · intro m i hm h8 hi
                    rw [if_neg (by omega)]
                    exact HO.out m i (by omega) h8 hi
                case measure => simp [intOf]; omega
            · obtain rfl : n0 = 2 := by omega
              go_wp2
              go_roundw
              case rel => exact ⟨2, V', by omega, by simp, rfl, fun m i hm hi => HU.out m i (by simpa using hm) hi, HR.out⟩
              case measure => simp [intOf]
        case inr.inr.inl =>
          have hl' : _ = Value.int .i64 2 := hl
          subst hl'
          clear hrel hl
          go_wp2
          go_loopw [45] (fun i wr => ∃ (n0 : Nat) (V' : Nat → Nat → Nat), n0 ≤ 1 ∧ i = .int .i64 n0 ∧ RowKit.Hid (∀ m i, m < n0 → i < 3 → V' m i = stgK s F a x 3 m i) ∧ RowKit.Hid (∀ m i, n0 ≤ m → m < 8 → i < 3 → V' m i = V m i) ∧ LnR s L H n c A a x w V' wr) (fun i _ => 1 - (intOf i).toNat)
          case atStart => exact ⟨0, V, by omega, rfl, hid fun m i hm => absurd hm (by omega), hid fun m i _ _ _ => rfl, HR.out⟩
          case round =>
            clear HR
            obtain ⟨n0, V', hn0, rfl, HU, HO, hrel⟩ := hrel
            have HR := hid hrel
            by_cases hnlt : n0 < 1
            · have e0 := hrel.b3.cell0 (2 * n0) (by omega)
              have e1 := hrel.b3.cell (2 * n0) 1 (by omega) (by omega)
              have e2 := hrel.b3.cell (2 * n0) 2 (by omega) (by omega)
              have f0 := hrel.b3.cell0 (2 * n0 + 1) (by omega)
              have f1 := hrel.b3.cell (2 * n0 + 1) 1 (by omega) (by omega)
              have f2 := hrel.b3.cell (2 * n0 + 1) 2 (by omega) (by omega)
              have n8 : (n0 : Int) < 1 := by omega
              have m8 : 2 * (n0 : Int) < 8 := by omega
              have l8 : 2 * (n0 : Int) + 1 < 8 := by omega
              have o8 : (n0 : Int) < 8 := by omega
              have w1 : IntKind.i64.wrap (2 * (n0 : Int)) = 2 * (n0 : Int) := by rw [IntKind.wrap_i64]; omega
              have w2 : IntKind.i64.wrap (2 * (n0 : Int) + 1) = 2 * (n0 : Int) + 1 := by rw [IntKind.wrap_i64]; omega
              have p1 : 0 ≤ 2 * (n0 : Int) := by omega
              have p2 : 0 ≤ 2 * (n0 : Int) + 1 := by omega
              have t1 : (2 * (n0 : Int)).toNat = 2 * n0 := by omega
              have t2 : (2 * (n0 : Int) + 1).toNat = 2 * n0 + 1 := by omega
              have HN8 : RowKit.Hid (n0 < 8) := hid (by omega)
              clear hrel
              go_wp2
              go_region_with (go_at_call 99; refine (lerp3_any (V' (2 * n0)) (V' (2 * n0 + 1)) (x 2) _).mono ?_; rintro e w4 ⟨rfl, hb4⟩; have hr4 := HR.out.drew.below hb4; have HR4 := hid hr4; have g0 := hr4.b3.cell0 n0 HN8.out; have g1 := hr4.b3.cell n0 1 HN8.out (by decide); have g2 := hr4.b3.cell n0 2 HN8.out (by decide); have gf := fun i => hr4.b3.open_ i; clear hb4 hr4)
              all_goals
                clear w1 w2 p1 p2 t1 t2
                go_wp2
                go_roundw
                case rel =>
                  (repeat apply Exists.intro)
                  refine ⟨⟨n0 + 1, _, by omega, by go_num, hid ?_, hid ?_, HR4.out.row n0 HN8.out (fun i => lerpC (V' (2 * n0) i) (V' (2 * n0 + 1) i) (x 2))⟩, rfl⟩
                  · intro m i hm hi
                    by_cases e : m = n0
                    · rw [if_pos e, e, HO.out (2 * n0) i (by omega) (by omega) hi, HO.out (2 * n0 + 1) i (by omega) (by omega) hi, HV.out (2 * n0) i (by omega) hi, HV.out (2 * n0 + 1) i (by omega) hi]
                      rfl
                    · rw [if_neg e]; exact HU.out m i (by omega) hi
                  · intro m i hm h8 hi
                    rw [if_neg (by omega)]
                    exact HO.out m i (by omega) h8 hi
                case measure => simp [intOf]; omega
            · obtain rfl : n0 = 1 := by omega
              go_wp2
              go_roundw
              case rel => exact ⟨3, V', by omega, by simp, rfl, fun m i hm hi => HU.out m i (by simpa using hm) hi, HR.out⟩
              case measure => simp [intOf]
        case inr.inr.inr =>
          have hl' : _ = Value.int .i64 1 := hl
          subst hl'
          have e0 := hrel.b3.cell 0 0 (by omega) (by omega)
          have e1 := hrel.b3.cell 0 1 (by omega) (by omega)
          have e2 := hrel.b3.cell 0 2 (by omega) (by omega)
          have z0 := hrel.b2.cell 0
          have z1 := hrel.b2.cell 1
          have z2 := hrel.b2.cell 2
          have zf := fun i => hrel.b2.frozen i
          simp at e0 e1 e2 z0 z1 z2
          clear hrel hl
          go_wp2
          have hblk := HR.out.b2.set3 (.float .f32 (V 0 0)) (.float .f32 (V 0 1)) (.float .f32 (V 0 2))
          have hb2 := ((HR.out.be.setCell (p := ⟨w.heap.size + 1 + 1, 0, none⟩) (by simp; omega) (.float .f32 (V 0 0))).setCell (p := ⟨w.heap.size + 1 + 1, 1, none⟩) (by simp; omega) (.float .f32 (V 0 1))).setCell (p := ⟨w.heap.size + 1 + 1, 2, none⟩) (by simp; omega) (.float .f32 (V 0 2))
          exact bodyPost_ret (v := arr (V 0)) (results_cell_row rfl _ _ _ _ _ _ _ rfl hblk Try.underlying30 rfl (by kernel_rfl)) rfl ⟨_, rfl, fun i hi => by rw [HV.out 0 i (by decide) hi]; exact cl_lerpC .., hb2⟩
end Go.Proofs.Ythnbfllhmjpbjaa
