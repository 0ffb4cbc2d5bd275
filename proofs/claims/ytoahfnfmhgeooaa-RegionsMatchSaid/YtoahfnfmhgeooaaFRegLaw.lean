/-
  The law of regions.
-/
import Derived.Test.YtoahfnfmhgeooaaFTilR
import Derived.Deep.RegionHeld
namespace Go.Proofs.Ytoahfnfmhgeooaa
open Go.RowKit

/-- A slice of regions that reads as a list of cells. -/
def Rrd (w : World) (A : Option Addr) (n : Nat) (L : List Value) : Prop := 0 < n → ∃ g, A = some ⟨g, 0, none⟩ ∧ g < w.heap.size ∧ ∀ j, j < 4 * n → w.cell? ⟨g, j, none⟩ = L[j]?
theorem Rrd.below {w w' : World} {A : Option Addr} {n : Nat} {L : List Value} (h : Rrd w A n L) (hb : Below w.heap.size w w') : Rrd w' A n L := fun hn => by
  obtain ⟨g, e, hlt, hc⟩ := h hn
  exact ⟨g, e, Nat.lt_of_lt_of_le hlt hb.size, fun j hj => (hb.cell (p := ⟨g, j, none⟩) hlt).trans (hc j hj)⟩

set_option maxRecDepth 100000 in
set_option maxHeartbeats 1000000 in
theorem equalReg_yes (x y a b s X0 Y0 : Int) (nc n c c2 : Nat) (A B : Option Addr) (w : World) (hn : n ≤ 66049) (hA : Rrd w A n (tileL x y a b s X0 Y0 nc n)) (hB : Rrd w B n (tileL x y a b s X0 Y0 nc n)) :
    Calls Try.prog 19 #[.slice A n c, .slice B n c2] w fun e w' => e = .returned (.bool true) ∧ Below w.heap.size w w' := by
  have HA := hid hA
  have HB := hid hB
  clear hA hB
  go_enter Try.func19, Try.ntmps19
  go_wp2_with fail
  go_loopw [13] (fun i wr => ∃ k : Nat, k ≤ n ∧ i = .int .i64 k ∧ Below w.heap.size w wr) (fun i _ => n - (intOf i).toNat)
  case atStart => exact ⟨0, Nat.zero_le _, rfl, Below.refl _ _⟩
  case round =>
    obtain ⟨k, hk, rfl, hb⟩ := hrel
    have HBE := hid hb
    by_cases hlt : k < n
    · obtain ⟨ga, rfl, hga, hca⟩ := (HA.out.below hb) (by omega)
      obtain ⟨gb, rfl, hgb, hcb⟩ := (HB.out.below hb) (by omega)
      obtain ⟨t0, t1, t2, t3⟩ := tileL_get (x := x) (y := y) (a := a) (b := b) (s := s) (X0 := X0) (Y0 := Y0) (nc := nc) n hlt
      have u0 := (hca (4 * k) (by omega)).trans t0
      have u1 := (hca (4 * k + 1) (by omega)).trans t1
      have u2 := (hca (4 * k + 2) (by omega)).trans t2
      have u3 := (hca (4 * k + 3) (by omega)).trans t3
      have v0 := (hcb (4 * k) (by omega)).trans t0
      have v1 := (hcb (4 * k + 1) (by omega)).trans t1
      have v2 := (hcb (4 * k + 2) (by omega)).trans t2
      have v3 := (hcb (4 * k + 3) (by omega)).trans t3
      have k1 : (0 : Int) ≤ (k : Int) := by omega
      have k2 : (k : Int) < (n : Int) := by omega
      rw [Nat.mul_comm] at u0 u1 u2 u3 v0 v1 v2 v3
      clear hb hca hcb t0 t1 t2 t3
      go_wp2_with fail
      go_quiet (fail)
      go_wp2_with fail
      go_roundw
      case rel => exact ⟨k + 1, by omega, by go_num, below_drewN HBE.out _⟩
      case measure => simp [intOf]; omega
    · go_wp2_with fail
      go_ret
      exact ⟨rfl, HBE.out⟩

/-- Tiles, or none, and an error. -/
def TG (w : World) (E : Int) (N : Nat) (L : List Value) (e : Ending) (w' : World) : Prop := ∃ A c, e = .returned (.tuple #[.slice A N c, .int .i64 E]) ∧ N ≤ c ∧ Rrd w' A N L ∧ Below w.heap.size w w'
theorem TG.of {w w' : World} {x y a b s X0 Y0 : Int} {nc n : Nat} {e : Ending} (h : Tiled w x y a b s X0 Y0 nc n e w') : TG w 0 n (tileL x y a b s X0 Y0 nc n) e w' := by
  obtain ⟨g, c, he, h1, h2, h3, h4, h5, h6⟩ := h
  exact ⟨_, c, he, h1, fun _ => ⟨g, rfl, h4, h5⟩, h6⟩
theorem TG.none {w w' : World} {E : Int} {L : List Value} {e : Ending} (h : e = .returned (.tuple #[.slice none 0 0, .int .i64 E]) ∧ Below w.heap.size w w') : TG w E 0 L e w' :=
  ⟨_, 0, h.1, Nat.le_refl _, fun h => absurd h (by omega), h.2⟩

/-- What both say of tiles. -/
theorem tiles_both (x y a b s : Int) : ∃ (E : Int) (N nc : Nat) (X0 Y0 : Int), N ≤ 66049 ∧ (∀ w, Calls Try.prog 17 #[reg x y a b, .int .i64 s] w (TG w E N (tileL x y a b s X0 Y0 nc N))) ∧
    (∀ w, Calls Try.prog 18 #[reg x y a b, .int .i64 s] w (TG w E N (tileL x y a b s X0 Y0 nc N))) ∧ (E = 0 → tileN x y a b s X0 Y0 nc N = a * b ∧ 0 ≤ a * b ∧ a * b ≤ 16384) ∧
    (∀ k, k < N → 0 ≤ tileN x y a b s X0 Y0 nc k ∧ tileN x y a b s X0 Y0 nc k ≤ 65536 * k ∧ 1 ≤ tW x a X0 s nc k ∧ tW x a X0 s nc k ≤ 256 ∧ 1 ≤ tH y b Y0 s nc k ∧ tH y b Y0 s nc k ≤ 256) := by
  by_cases h : regE x y a b = 0
  · cases hs : sideB s
    · exact ⟨3, 0, 0, 0, 0, by omega, fun w => (tilesp_range x y a b s w h hs).mono fun _ _ hh => .none hh, fun w => (tilesr_range x y a b s w h hs).mono fun _ _ hh => .none hh, fun hh => absurd hh (by decide), fun k hk => absurd hk (by omega)⟩
    · obtain ⟨a1, a2, b1, b2, ab, _⟩ := regE_zero h
      obtain ⟨s1, s2⟩ := sideB_true.1 hs
      obtain ⟨nc, hc⟩ := cols_of (x := x) s1 s2 a1 a2
      obtain ⟨nr, hr⟩ := cols_of (x := y) s1 s2 b1 b2
      have HT : TileIn x y a b s (x / s * s) (y / s * s) nc nr := ⟨hc, hr⟩
      refine ⟨0, nc * nr, nc, _, _, HT.many, fun w => (tilesp_ok x y a b s nc nr w h hs HT).mono fun _ _ hh => .of hh, fun w => (tilesr_ok x y a b s nc nr w h hs HT).mono fun _ _ hh => .of hh, fun _ => ⟨HT.all, by have := (prod_le a1 a2 b1 b2).1; omega, ab⟩, fun k hk => ?_⟩
      have h1 := HT.count (Nat.le_of_lt hk)
      have h2 := HT.sides hk
      exact ⟨h1.1, h1.2, h2⟩
  · exact ⟨regE x y a b, 0, 0, 0, 0, by omega, fun w => (tilesp_bad x y a b s w h).mono fun _ _ hh => .none hh, fun w => (tilesr_bad x y a b s w h).mono fun _ _ hh => .none hh, fun hh => absurd hh h, fun k hk => absurd hk (by omega)⟩
theorem growR_reg (x y a b n : Int) : ∃ g0 g1 g2 g3, growR x y a b n = reg g0 g1 g2 g3 := by
  unfold growR
  split
  · exact ⟨_, _, _, _, rfl⟩
  · exact ⟨_, _, _, _, rfl⟩

theorem common_both {x y a b x' y' a' b' : Int} (h1 : regE x y a b = 0) (h2 : regE x' y' a' b' = 0) : ∃ (r0 r1 r2 r3 : Int) (ok : Bool), (∀ w, Calls Try.prog 20 #[reg x y a b, reg x' y' a' b'] w (Tup w (reg r0 r1 r2 r3) ok)) ∧
    ∀ w, Calls Try.prog 21 #[reg x y a b, reg x' y' a' b'] w (Tup w (reg r0 r1 r2 r3) ok) := by
  by_cases h : max x x' < min (x + a) (x' + a') ∧ max y y' < min (y + b) (y' + b')
  · exact ⟨_, _, _, _, _, common_yes x y a b x' y' a' b' (small_of h1) (small_of h2) h.1 h.2, commonr_yes x y a b x' y' a' b' (small_of h1) (small_of h2) h.1 h.2⟩
  · exact ⟨_, _, _, _, _, common_no x y a b x' y' a' b' (small_of h1) (small_of h2) h, commonr_no x y a b x' y' a' b' (small_of h1) (small_of h2) h⟩

/-- The boxes of the law. -/
def RSt (w : World) (x y a b x' y' a' b' : Int) (wr : World) : Prop :=
  Blk wr w.heap.size 23 #[.int .i64 x, .int .i64 y, .int .i64 a, .int .i64 b] ∧ Blk wr (w.heap.size + 1) 23 #[.int .i64 x', .int .i64 y', .int .i64 a', .int .i64 b'] ∧ Below w.heap.size w wr
theorem RSt.below {w wr w1 : World} {x y a b x' y' a' b' : Int} (h : RSt w x y a b x' y' a' b' wr) (hb : Below wr.heap.size wr w1) : RSt w x y a b x' y' a' b' w1 :=
  ⟨h.1.below hb h.1.lt, h.2.1.below hb h.2.1.lt, below_to h.2.2 hb⟩
theorem RSt.drew {w wr : World} {x y a b x' y' a' b' : Int} (h : RSt w x y a b x' y' a' b' wr) : RSt w x y a b x' y' a' b' wr.drew := h.below (below_drewN (Below.refl _ _) 1)
theorem RSt.drewN {w wr : World} {x y a b x' y' a' b' : Int} (h : RSt w x y a b x' y' a' b' wr) (k : Nat) : RSt w x y a b x' y' a' b' (wr.drewN k) := h.below (below_drewN (Below.refl _ _) k)
theorem RSt.cells {w wr : World} {x y a b x' y' a' b' : Int} (h : RSt w x y a b x' y' a' b' wr) :
    (wr.cell? ⟨w.heap.size, 0, none⟩ = some (.int .i64 x) ∧ wr.cell? ⟨w.heap.size, 1, none⟩ = some (.int .i64 y) ∧ wr.cell? ⟨w.heap.size, 2, none⟩ = some (.int .i64 a) ∧ wr.cell? ⟨w.heap.size, 3, none⟩ = some (.int .i64 b)) ∧
    (wr.cell? ⟨w.heap.size + 1, 0, none⟩ = some (.int .i64 x') ∧ wr.cell? ⟨w.heap.size + 1, 1, none⟩ = some (.int .i64 y') ∧ wr.cell? ⟨w.heap.size + 1, 2, none⟩ = some (.int .i64 a') ∧ wr.cell? ⟨w.heap.size + 1, 3, none⟩ = some (.int .i64 b')) :=
  ⟨⟨h.1.cell 0, h.1.cell 1, h.1.cell 2, h.1.cell 3⟩, h.2.1.cell 0, h.2.1.cell 1, h.2.1.cell 2, h.2.1.cell 3⟩

/-- The same, as a condition on a region that draws. -/
structure RK (w : World) (x y a b x' y' a' b' : Int) (wr : World) : Prop where
  st : RSt w x y a b x' y' a' b' wr
abbrev RC (w : World) (x y a b x' y' a' b' : Int) (w' : World) : Prop :=
  w'.cell? ⟨w.heap.size, 0, none⟩ = some (.int .i64 x) ∧ w'.cell? ⟨w.heap.size, 1, none⟩ = some (.int .i64 y) ∧ w'.cell? ⟨w.heap.size, 2, none⟩ = some (.int .i64 a) ∧ w'.cell? ⟨w.heap.size, 3, none⟩ = some (.int .i64 b) ∧ w'.cell? ⟨w.heap.size + 1, 0, none⟩ = some (.int .i64 x') ∧ w'.cell? ⟨w.heap.size + 1, 1, none⟩ = some (.int .i64 y') ∧ w'.cell? ⟨w.heap.size + 1, 2, none⟩ = some (.int .i64 a') ∧ w'.cell? ⟨w.heap.size + 1, 3, none⟩ = some (.int .i64 b') ∧ RK w x y a b x' y' a' b' w'
theorem RSt.held {w wr : World} {x y a b x' y' a' b' : Int} (h : RSt w x y a b x' y' a' b' wr) : RC w x y a b x' y' a' b' wr := ⟨h.cells.1.1, h.cells.1.2.1, h.cells.1.2.2.1, h.cells.1.2.2.2, h.cells.2.1, h.cells.2.2.1, h.cells.2.2.2.1, h.cells.2.2.2.2, ⟨h⟩⟩
theorem RK.on {w wr w1 : World} {x y a b x' y' a' b' : Int} (hb : Below wr.heap.size wr w1) (h : RK w x y a b x' y' a' b' wr) : RC w x y a b x' y' a' b' w1 := (h.st.below hb).held

/-- The boxes at the end of the law. -/
structure FK (w : World) (x y a b x' y' a' b' : Int) (g1 g2 : Nat) (r0 r1 r2 r3 : Int) (wr : World) : Prop where
  st : RSt w x y a b x' y' a' b' wr
  c : Blk wr g1 23 #[.int .i64 r0, .int .i64 r1, .int .i64 r2, .int .i64 r3]
  d : Blk wr g2 23 #[.int .i64 r0, .int .i64 r1, .int .i64 r2, .int .i64 r3]
abbrev FC (w : World) (x y a b x' y' a' b' : Int) (g1 g2 : Nat) (r0 r1 r2 r3 : Int) (w' : World) : Prop :=
  w'.cell? ⟨w.heap.size, 0, none⟩ = some (.int .i64 x) ∧ w'.cell? ⟨w.heap.size, 1, none⟩ = some (.int .i64 y) ∧ w'.cell? ⟨w.heap.size, 2, none⟩ = some (.int .i64 a) ∧ w'.cell? ⟨w.heap.size, 3, none⟩ = some (.int .i64 b) ∧ w'.cell? ⟨w.heap.size + 1, 0, none⟩ = some (.int .i64 x') ∧ w'.cell? ⟨w.heap.size + 1, 1, none⟩ = some (.int .i64 y') ∧ w'.cell? ⟨w.heap.size + 1, 2, none⟩ = some (.int .i64 a') ∧ w'.cell? ⟨w.heap.size + 1, 3, none⟩ = some (.int .i64 b') ∧ w'.cell? ⟨g1, 0, none⟩ = some (.int .i64 r0) ∧ w'.cell? ⟨g1, 1, none⟩ = some (.int .i64 r1) ∧ w'.cell? ⟨g1, 2, none⟩ = some (.int .i64 r2) ∧ w'.cell? ⟨g1, 3, none⟩ = some (.int .i64 r3) ∧ w'.cell? ⟨g2, 0, none⟩ = some (.int .i64 r0) ∧ w'.cell? ⟨g2, 1, none⟩ = some (.int .i64 r1) ∧ w'.cell? ⟨g2, 2, none⟩ = some (.int .i64 r2) ∧ w'.cell? ⟨g2, 3, none⟩ = some (.int .i64 r3) ∧ FK w x y a b x' y' a' b' g1 g2 r0 r1 r2 r3 w'
section
variable {w wr w1 : World} {x y a b x' y' a' b' : Int} {g1 g2 : Nat} {r0 r1 r2 r3 : Int}
theorem FK.below (h : FK w x y a b x' y' a' b' g1 g2 r0 r1 r2 r3 wr) (hb : Below wr.heap.size wr w1) : FK w x y a b x' y' a' b' g1 g2 r0 r1 r2 r3 w1 := ⟨h.st.below hb, h.c.below hb h.c.lt, h.d.below hb h.d.lt⟩
theorem FK.drew (h : FK w x y a b x' y' a' b' g1 g2 r0 r1 r2 r3 wr) : FK w x y a b x' y' a' b' g1 g2 r0 r1 r2 r3 wr.drew := h.below (below_drewN (Below.refl _ _) 1)
theorem FK.held (h : FK w x y a b x' y' a' b' g1 g2 r0 r1 r2 r3 wr) : FC w x y a b x' y' a' b' g1 g2 r0 r1 r2 r3 wr :=
  ⟨h.st.cells.1.1, h.st.cells.1.2.1, h.st.cells.1.2.2.1, h.st.cells.1.2.2.2, h.st.cells.2.1, h.st.cells.2.2.1, h.st.cells.2.2.2.1, h.st.cells.2.2.2.2, h.c.cell 0, h.c.cell 1, h.c.cell 2, h.c.cell 3, h.d.cell 0, h.d.cell 1, h.d.cell 2, h.d.cell 3, h⟩
theorem FC.fk (h : FC w x y a b x' y' a' b' g1 g2 r0 r1 r2 r3 wr) : FK w x y a b x' y' a' b' g1 g2 r0 r1 r2 r3 wr := h.2.2.2.2.2.2.2.2.2.2.2.2.2.2.2.2
theorem FC.be (h : FC w x y a b x' y' a' b' g1 g2 r0 r1 r2 r3 wr) : Below w.heap.size w wr := (FC.fk h).st.2.2
theorem FC.on (hb : Below wr.heap.size wr w1) (h : FC w x y a b x' y' a' b' g1 g2 r0 r1 r2 r3 wr) : FC w x y a b x' y' a' b' g1 g2 r0 r1 r2 r3 w1 := ((FC.fk h).below hb).held
end

theorem RC.on {w wr w1 : World} {x y a b x' y' a' b' : Int} (hb : Below wr.heap.size wr w1) (h : RC w x y a b x' y' a' b' wr) : RC w x y a b x' y' a' b' w1 := RK.on hb h.2.2.2.2.2.2.2.2

set_option maxRecDepth 100000 in
set_option maxHeartbeats 4000000 in
theorem regions_any (x y a b x' y' a' b' n s : Int) (w : World) (n1 : -9223372036854775808 ≤ n) (n2 : n ≤ 9223372036854775807) :
    Calls Try.prog 3 #[reg x y a b, reg x' y' a' b', .int .i64 n, .int .i64 s] w fun e w' => e = .returned (.bool true) ∧ Below w.heap.size w w' := by
  obtain ⟨E, N, nc, X0, Y0, hN, hTp, hTr, hall, hpart⟩ := tiles_both x y a b s
  have HTp := hid hTp
  have HTr := hid hTr
  have HALL := hid hall
  have HPART := hid hpart
  obtain ⟨g0, g1, g2, g3, hg⟩ := growR_reg x y a b n
  have HGR : RowKit.Hid (∀ w, Calls Try.prog 16 #[reg x y a b, .int .i64 n] w (Two w (reg g0 g1 g2 g3) (growE x y a b n))) := hid fun w => by rw [← hg]; exact growr_any x y a b n w n1 n2
  have HGP : RowKit.Hid (∀ w, Calls Try.prog 15 #[reg x y a b, .int .i64 n] w (Two w (reg g0 g1 g2 g3) (growE x y a b n))) := hid fun w => by rw [← hg]; exact grow_any x y a b n w n1 n2
  obtain ⟨G, hG⟩ : ∃ G, growE x y a b n = G := ⟨_, rfl⟩
  rw [hG] at HGR HGP
  obtain ⟨wb, hwb⟩ : ∃ wb, wb = (w.alloc (.cells #[.int .i64 x, .int .i64 y, .int .i64 a, .int .i64 b] 23)).alloc (.cells #[.int .i64 x', .int .i64 y', .int .i64 a', .int .i64 b'] 23) := ⟨_, rfl⟩
  have HS0 : RowKit.Hid (RSt w x y a b x' y' a' b' wb) := by
    rw [hwb]
    exact ⟨(Blk.new_at _ _ _ rfl).alloc _, Blk.new_at _ _ _ (by simp), ((Below.refl _ _).alloc (Nat.le_refl _) _).alloc (by simp) _⟩
  have HWB := hid hwb
  clear hTp hTr hall hpart hg hG hwb
  go_enter Try.func3, Try.ntmps3
  go_wp2_with fail
  rw [← HWB.out]
  refine (landed_any _).mono ?_
  rintro e w' ⟨rfl, rfl⟩
  clear HWB
  go_wp2_with fail
  go_region_held (fun w' => w'.cell? ⟨w.heap.size, 0, none⟩ = some (.int .i64 x) ∧ w'.cell? ⟨w.heap.size, 1, none⟩ = some (.int .i64 y) ∧ w'.cell? ⟨w.heap.size, 2, none⟩ = some (.int .i64 a) ∧ w'.cell? ⟨w.heap.size, 3, none⟩ = some (.int .i64 b) ∧ w'.cell? ⟨w.heap.size + 1, 0, none⟩ = some (.int .i64 x') ∧ w'.cell? ⟨w.heap.size + 1, 1, none⟩ = some (.int .i64 y') ∧ w'.cell? ⟨w.heap.size + 1, 2, none⟩ = some (.int .i64 a') ∧ w'.cell? ⟨w.heap.size + 1, 3, none⟩ = some (.int .i64 b') ∧ RK w x y a b x' y' a' b' w') (first | exact HS0.out.drew.held | exact RC.on (by assumption) (by assumption) | exact RK.on (by assumption) (by assumption) | go_keep) (first | (go_at_call 13; refine (checkRegion_any _ _ _ _ _).mono ?_; rintro e w1 ⟨rfl, hb⟩) | (go_at_call 14; refine (regionError_any _ _ _ _ _).mono ?_; rintro e w1 ⟨rfl, hb⟩))
  all_goals
    rename_i hH
    have HS1 := hid hH.2.2.2.2.2.2.2.2.st
    clear hH HS0
    obtain ⟨⟨c0, c1, c2, c3⟩, d0, d1, d2, d3⟩ := HS1.out.cells
    have l1 := HS1.out.1.lt
    have l2 := HS1.out.2.1.lt
    go_wp2_with fail
    refine (HGP.out _).mono ?_
    rintro e w2 ⟨rfl, hb⟩
    have HS2 := hid (HS1.out.below hb)
    clear hb c0 c1 c2 c3 d0 d1 d2 d3 l1 l2 HS1
    obtain ⟨⟨c0, c1, c2, c3⟩, d0, d1, d2, d3⟩ := HS2.out.cells
    have l1 := HS2.out.1.lt
    have l2 := HS2.out.2.1.lt
    have hbg : Blk (w2.alloc (.cells #[.int .i64 g0, .int .i64 g1, .int .i64 g2, .int .i64 g3] 23)) w2.heap.size 23 #[.int .i64 g0, .int .i64 g1, .int .i64 g2, .int .i64 g3] := Blk.new_at _ _ _ rfl
    have HS2a := hid (HS2.out.below ((Below.refl _ _).alloc (Nat.le_refl _) (.cells #[.int .i64 g0, .int .i64 g1, .int .i64 g2, .int .i64 g3] 23)))
    have HBG := hid hbg
    clear hbg
    go_wp2_with fail
    refine (HGR.out _).mono ?_
    rintro e w3 ⟨rfl, hb⟩
    have HS3 := hid (HS2a.out.below hb)
    have HBG3 := hid (HBG.out.below hb HBG.out.lt)
    have k0 := HBG3.out.cell 0
    have k1 := HBG3.out.cell 1
    have k2 := HBG3.out.cell 2
    have k3 := HBG3.out.cell 3
    simp at k0 k1 k2 k3
    have l3 := HBG3.out.lt
    clear hb c0 c1 c2 c3 d0 d1 d2 d3 l1 l2 HS2 HS2a HBG
    obtain ⟨⟨c0, c1, c2, c3⟩, d0, d1, d2, d3⟩ := HS3.out.cells
    have l1 := HS3.out.1.lt
    have l2 := HS3.out.2.1.lt
    go_wp2_with fail
    have HS3a := hid (HS3.out.below ((Below.refl _ _).alloc (Nat.le_refl _) (.cells #[.int .i64 g0, .int .i64 g1, .int .i64 g2, .int .i64 g3] 23)))
    refine (HTp.out _).mono ?_
    rintro e w4 ⟨A, cA, rfl, hcA, hA, hb⟩
    have HS4 := hid (HS3a.out.below hb)
    have HA4 := hid hA
    clear hb c0 c1 c2 c3 d0 d1 d2 d3 l1 l2 HS3 HS3a hA k0 k1 k2 k3 l3 HBG3
    obtain ⟨⟨c0, c1, c2, c3⟩, d0, d1, d2, d3⟩ := HS4.out.cells
    have l1 := HS4.out.1.lt
    have l2 := HS4.out.2.1.lt
    go_wp2_with fail
    refine (HTr.out _).mono ?_
    rintro e w5 ⟨B, cB, rfl, hcB, hB, hb⟩
    have HS5 := hid (HS4.out.below hb)
    have HA5 := hid (HA4.out.below hb)
    have HEQ : RowKit.Hid (∀ w, Below w5.heap.size w5 w → Calls Try.prog 19 #[.slice A N cA, .slice B N cB] w fun e w' => e = .returned (.bool true) ∧ Below w.heap.size w w') :=
      hid fun w h => equalReg_yes x y a b s X0 Y0 nc N cA cB A B w hN (HA5.out.below h) (hB.below h)
    clear hb c0 c1 c2 c3 d0 d1 d2 d3 l1 l2 HS4 hB HA4
    obtain ⟨⟨c0, c1, c2, c3⟩, d0, d1, d2, d3⟩ := HS5.out.cells
    have l1 := HS5.out.1.lt
    have l2 := HS5.out.2.1.lt
    go_wp2_with fail
    refine (HEQ.out _ (Below.refl _ _)).mono ?_
    rintro e w6 ⟨rfl, hb⟩
    have HS6 := hid (HS5.out.below hb)
    have HA6 := hid (HA5.out.below hb)
    clear hb c0 c1 c2 c3 d0 d1 d2 d3 l1 l2 HS5 HA5 HEQ
    obtain ⟨⟨c0, c1, c2, c3⟩, d0, d1, d2, d3⟩ := HS6.out.cells
    have l1 := HS6.out.1.lt
    have l2 := HS6.out.2.1.lt
    go_wp2_with fail
    clear c0 c1 c2 c3 d0 d1 d2 d3 l1 l2
    have HN := hid hN
    go_loopw [15, 72] (fun v i wr => ∃ (k : Nat) (M : Int), k ≤ N ∧ v = .int .i64 M ∧ i = .int .i64 k ∧ RowKit.Hid (M = tileN x y a b s X0 Y0 nc k) ∧ RSt w x y a b x' y' a' b' wr ∧ Rrd wr A N (tileL x y a b s X0 Y0 nc N)) (fun _ i _ => N - (intOf i).toNat)
    case atStart => exact ⟨0, 0, Nat.zero_le _, rfl, rfl, hid rfl, HS6.out, HA6.out⟩
    case round =>
      clear HS6 HA6
      obtain ⟨k, M, hk, rfl, rfl, hM, hst, hA⟩ := hrel
      have HST := hid hst
      have HRA := hid hA
      clear hst hA
      obtain ⟨⟨c0, c1, c2, c3⟩, d0, d1, d2, d3⟩ := HST.out.cells
      have l1 := HST.out.1.lt
      have l2 := HST.out.2.1.lt
      by_cases hlt : k < N
      · obtain ⟨m1, m2, u1, u2, v1, v2⟩ := HPART.out k hlt
        rw [← hM.out] at m1 m2
        have hM2 := hid (show M + tW x a X0 s nc k * tH y b Y0 s nc k = tileN x y a b s X0 Y0 nc (k + 1) by rw [tileN_succ, hM.out])
        obtain ⟨ga, rfl, hga, hca⟩ := HRA.out (by omega)
        obtain ⟨t0, t1, t2, t3⟩ := tileL_get (x := x) (y := y) (a := a) (b := b) (s := s) (X0 := X0) (Y0 := Y0) (nc := nc) N hlt
        have q0 := (hca (4 * k) (by omega)).trans t0
        have q1 := (hca (4 * k + 1) (by omega)).trans t1
        have q2 := (hca (4 * k + 2) (by omega)).trans t2
        have q3 := (hca (4 * k + 3) (by omega)).trans t3
        rw [Nat.mul_comm] at q0 q1 q2 q3
        obtain ⟨U, hU⟩ : ∃ U, tW x a X0 s nc k = U := ⟨_, rfl⟩
        obtain ⟨V, hV⟩ : ∃ V, tH y b Y0 s nc k = V := ⟨_, rfl⟩
        rw [hU] at u1 u2 hM2 q2
        rw [hV] at v1 v2 hM2 q3
        obtain ⟨p1, p2⟩ := prod_le u1 u2 v1 v2
        obtain ⟨P, hP⟩ : ∃ P, U * V = P := ⟨_, rfl⟩
        rw [hP] at p1 p2 hM2
        have k1 : (0 : Int) ≤ (k : Int) := by omega
        have k2 : (k : Int) < (N : Int) := by omega
        have k3 : M ≤ 4400000000 := by have := HN.out; omega
        clear hca t0 t1 t2 t3 hU hV m2
        go_wp2_with fail
        go_roundw
        case rel => exact ⟨k + 1, M + P, by omega, rfl, by go_num, hM2, HST.out.below ((Below.refl _ _).alloc (Nat.le_refl _) _), HRA.out.below ((Below.refl _ _).alloc (Nat.le_refl _) _)⟩
        case measure => simp [intOf]; omega
      · have hkN : k = N := by omega
        subst hkN
        by_cases hE : E = 0
        case' pos =>
          obtain ⟨hs1, hs2, hs3⟩ := HALL.out hE
          rw [← hM.out] at hs1
          have zE : (E == 0) = true := by simp [hE]
          obtain ⟨P, hP⟩ : ∃ P, a * b = P := ⟨_, rfl⟩
          rw [hP] at hs1 hs2 hs3
          have zM : (M != P) = false := by simp [hs1]
          clear hE hs1
        case' neg =>
          have zE : (E == 0) = false := by simp [hE]
          clear hE
        all_goals
          by_cases h1 : regE x y a b = 0
          case' neg => have z1 : (regE x y a b != 0) = true := by simp [h1]
          case' pos =>
            have z1 : (regE x y a b != 0) = false := by simp [h1]
            by_cases h2 : regE x' y' a' b' = 0
            case' neg => have z2 : (regE x' y' a' b' != 0) = true := by simp [h2]
            case' pos =>
              have z2 : (regE x' y' a' b' != 0) = false := by simp [h2]
              obtain ⟨r0, r1, r2, r3, ok, hCp, hCr⟩ := common_both h1 h2
              have HCP := hid hCp
              have HCR := hid hCr
              have HS1 := hid (small_of h1)
              have HS2 := hid (small_of h2)
              clear hCp hCr h2
            clear h1
        all_goals
          go_wp2_with fail
          refine (regionError_any _ _ _ _ _).mono ?_
          rintro e w7 ⟨rfl, hb⟩
          have HS7 := hid (HST.out.below hb)
          clear hb c0 c1 c2 c3 d0 d1 d2 d3 l1 l2 HRA
          obtain ⟨⟨c0, c1, c2, c3⟩, d0, d1, d2, d3⟩ := HS7.out.cells
          have l1 := HS7.out.1.lt
          have l2 := HS7.out.2.1.lt
          go_wp2_with fail
          first
            | (go_ret; exact ⟨rfl, HS7.out.2.2⟩)
            | skip
        all_goals
          refine (regionError_any _ _ _ _ _).mono ?_
          rintro e w8 ⟨rfl, hb⟩
          have HS8 := hid (HS7.out.below hb)
          clear hb c0 c1 c2 c3 d0 d1 d2 d3 l1 l2 HST
          obtain ⟨⟨c0, c1, c2, c3⟩, d0, d1, d2, d3⟩ := HS8.out.cells
          have l1 := HS8.out.1.lt
          have l2 := HS8.out.2.1.lt
          go_wp2_with fail
          first
            | (go_ret; exact ⟨rfl, HS8.out.2.2⟩)
            | skip
        all_goals
          refine (HCP.out _).mono ?_
          rintro e w9 ⟨rfl, hb⟩
          have HS9 := hid ((HS8.out.below hb).below ((Below.refl _ _).alloc (Nat.le_refl _) (.cells #[.int .i64 r0, .int .i64 r1, .int .i64 r2, .int .i64 r3] 23)))
          have hs9 := HS8.out.below hb
          have l1 := hs9.1.lt
          have l2 := hs9.2.1.lt
          obtain ⟨⟨c0', c1', c2', c3'⟩, d0', d1', d2', d3'⟩ := hs9.cells
          have HBC : RowKit.Hid (Blk (w9.alloc (.cells #[.int .i64 r0, .int .i64 r1, .int .i64 r2, .int .i64 r3] 23)) w9.heap.size 23 #[.int .i64 r0, .int .i64 r1, .int .i64 r2, .int .i64 r3]) := hid (Blk.new_at _ _ _ rfl)
          clear hb c0 c1 c2 c3 d0 d1 d2 d3 hs9 HS7
          go_wp2_with fail
          refine (HCR.out _).mono ?_
          rintro e w10 ⟨rfl, hb⟩
          obtain ⟨wz, hwz⟩ : ∃ wz, wz = w10.alloc (.cells #[.int .i64 r0, .int .i64 r1, .int .i64 r2, .int .i64 r3] 23) := ⟨_, rfl⟩
          have hz : FK w x y a b x' y' a' b' w9.heap.size w10.heap.size r0 r1 r2 r3 wz := by
            rw [hwz]
            exact ⟨(HS9.out.below hb).below ((Below.refl _ _).alloc (Nat.le_refl _) _), (HBC.out.below hb HBC.out.lt).alloc _, Blk.new_at _ _ _ rfl⟩
          have HZ := hid hz
          have HWZ := hid hwz
          have u9 := (HS9.out.below hb).cells
          obtain ⟨⟨c0, c1, c2, c3⟩, d0, d1, d2, d3⟩ := u9
          have l3 := (HS9.out.below hb).1.lt
          have l4 := (HS9.out.below hb).2.1.lt
          have l5 := (HBC.out.below hb HBC.out.lt).lt
          clear hb c0' c1' c2' c3' d0' d1' d2' d3' l1 l2 HBC HS8 hz hwz HS9
          go_wp2_with fail
          rw [← HWZ.out]
          generalize w9.heap.size = g1 at *
          generalize w10.heap.size = g2 at *
          clear HWZ c0 c1 c2 c3 d0 d1 d2 d3 l3 l4 l5
          go_region_held (fun w' => w'.cell? ⟨w.heap.size, 0, none⟩ = some (.int .i64 x) ∧ w'.cell? ⟨w.heap.size, 1, none⟩ = some (.int .i64 y) ∧ w'.cell? ⟨w.heap.size, 2, none⟩ = some (.int .i64 a) ∧ w'.cell? ⟨w.heap.size, 3, none⟩ = some (.int .i64 b) ∧ w'.cell? ⟨w.heap.size + 1, 0, none⟩ = some (.int .i64 x') ∧ w'.cell? ⟨w.heap.size + 1, 1, none⟩ = some (.int .i64 y') ∧ w'.cell? ⟨w.heap.size + 1, 2, none⟩ = some (.int .i64 a') ∧ w'.cell? ⟨w.heap.size + 1, 3, none⟩ = some (.int .i64 b') ∧ w'.cell? ⟨g1, 0, none⟩ = some (.int .i64 r0) ∧ w'.cell? ⟨g1, 1, none⟩ = some (.int .i64 r1) ∧ w'.cell? ⟨g1, 2, none⟩ = some (.int .i64 r2) ∧ w'.cell? ⟨g1, 3, none⟩ = some (.int .i64 r3) ∧ w'.cell? ⟨g2, 0, none⟩ = some (.int .i64 r0) ∧ w'.cell? ⟨g2, 1, none⟩ = some (.int .i64 r1) ∧ w'.cell? ⟨g2, 2, none⟩ = some (.int .i64 r2) ∧ w'.cell? ⟨g2, 3, none⟩ = some (.int .i64 r3) ∧ FK w x y a b x' y' a' b' g1 g2 r0 r1 r2 r3 w') (first | exact HZ.out.drew.held | exact FC.on (by assumption) (by assumption) | go_keep) (first | (go_at_call 22; refine (inside_any _ _ _ _ _ _ _ _ HS1.out HS2.out _).mono ?_; rintro e w1 ⟨rfl, hb⟩) | (go_at_call 23; refine (insider_any _ _ _ _ _ _ _ _ HS1.out HS2.out _).mono ?_; rintro e w1 ⟨rfl, hb⟩))
        all_goals
          rename_i hH
          have HE := hid (FC.be hH)
          clear hH
          go_wp2_with fail
          go_ret
          exact ⟨rfl, HE.out⟩
end Go.Proofs.Ytoahfnfmhgeooaa
