/-
  GrainedOf of the reference.
-/
import Derived.Test.YthoiiccecneefaaQGp
import Derived.Test.YthoiiccecneefaaQGd
import Derived.Test.YthoiiccecneefaaQVr
import Derived.Deep.RegionHeld3
import Derived.BigQuiet
import Derived.Lib.ItoaWalk
namespace Go.Proofs.Ythoiiccecneefaa
open Go.RowKit Go.Shelf
attribute [local go_sem] run_store_float

/-- What the loop over the channels keeps. -/
structure GO (sd z : Int) (s f : Nat) (m : Bool) (P G : Nat → Nat) (j : Nat) (w wr : World) : Prop where
  g : Blk wr w.heap.size 45 (grnA sd z s f m)
  p : Blk wr (w.heap.size + 1) 47 (pixA P)
  r : Blk wr (w.heap.size + 1 + 1) 47 zpx
  q : Blk wr (w.heap.size + 1 + 1 + 1) 47 (pixA fun i => if i = 3 then cl (P 3) else if i < j then G i else 0)
  be : Below w.heap.size w wr
section
variable {sd z num x y : Int} {s f j : Nat} {m : Bool} {P G : Nat → Nat} {w wr w1 : World}
theorem GO.below (h : GO sd z s f m P G j w wr) (hb : Below wr.heap.size wr w1) : GO sd z s f m P G j w w1 :=
  ⟨h.g.below hb h.g.lt, h.p.below hb h.p.lt, h.r.below hb h.r.lt, h.q.below hb h.q.lt, below_to h.be hb⟩
theorem GO.far (h : GO sd z s f m P G j w wr) {b k : Nat} (hb : w.heap.size + 1 + 1 + 1 < b) (v : Value) : GO sd z s f m P G j w (wr.setCell ⟨b, k, none⟩ v) :=
  ⟨h.g.far (by show _ ≠ b; omega) _, h.p.far (by show _ ≠ b; omega) _, h.r.far (by show _ ≠ b; omega) _, h.q.far (by show _ ≠ b; omega) _, h.be.setCell (by show _ ≤ b; omega) _⟩
theorem pixA_get (P : Nat → Nat) (k : Nat) (hk : k < 4) : (pixA P)[k]? = some (.float .f32 (P k)) := by
  have : k = 0 ∨ k = 1 ∨ k = 2 ∨ k = 3 := by omega
  rcases this with h | h | h | h <;> subst h <;> rfl
/-- The same in the midst of a round: channel j is whatever it is. -/
structure GOX (sd z : Int) (s f : Nat) (m : Bool) (P G : Nat → Nat) (j : Nat) (w wr : World) : Prop where
  g : Blk wr w.heap.size 45 (grnA sd z s f m)
  p : Blk wr (w.heap.size + 1) 47 (pixA P)
  r : Blk wr (w.heap.size + 1 + 1) 47 zpx
  q : wr.rowIs (w.heap.size + 1 + 1 + 1) 47 4 (fun i => if i = j then at1 wr (w.heap.size + 1 + 1 + 1) j else .float .f32 (if i = 3 then cl (P 3) else if i < j then G i else 0))
  be : Below w.heap.size w wr
  lj : j < 3
abbrev GC (sd z : Int) (s f : Nat) (m : Bool) (P G : Nat → Nat) (j : Nat) (w w' : World) : Prop := w'.cell? ⟨w.heap.size, 2, none⟩ = some (.float .f32 s) ∧ w'.cell? ⟨w.heap.size + 1, j, none⟩ = some (.float .f32 (P j)) ∧ w'.cell? ⟨w.heap.size + 1 + 1 + 1, j, none⟩ = some (at1 w' (w.heap.size + 1 + 1 + 1) j) ∧ w'.frozen? ⟨w.heap.size + 1 + 1 + 1, j, none⟩ = false ∧ GOX sd z s f m P G j w w'
theorem GO.mid (h : GO sd z s f m P G j w wr) (hj : j < 3) : GOX sd z s f m P G j w wr :=
  have hq := row4_of_blk (f := fun i => .float .f32 (if i = 3 then cl (P 3) else if i < j then G i else 0)) h.q
  ⟨h.g, h.p, h.r, World.rowIs.congr hq (fun i _ => by
    by_cases hi : i = j
    · subst hi
      rw [if_pos rfl]
      exact (at1_of (hq.cell (by omega))).symm
    · rw [if_neg hi]), h.be, hj⟩
theorem GOX.held (h : GOX sd z s f m P G j w wr) : GC sd z s f m P G j w wr :=
  ⟨h.g.cell 2, by have := h.p.cell j; rw [show (pixA P)[j]? = some (.float .f32 (P j)) from pixA_get P j (by have := h.lj; omega)] at this; exact this, by have := h.q.cell (i := j) (by have := h.lj; omega); rw [if_pos rfl] at this; exact this, h.q.frozen j, h⟩
theorem GOX.below (h : GOX sd z s f m P G j w wr) (hb : Below wr.heap.size wr w1) : GOX sd z s f m P G j w w1 :=
  have h2 := rowIs_below h.q hb h.q.lt
  ⟨h.g.below hb h.g.lt, h.p.below hb h.p.lt, h.r.below hb h.r.lt, World.rowIs.congr h2 (fun i _ => by
    by_cases hi : i = j
    · subst hi
      rw [if_pos rfl, if_pos rfl]
      have h3 := h2.cell (i := i) (by have := h.lj; omega)
      rw [if_pos rfl] at h3
      exact (at1_of h3).symm
    · rw [if_neg hi, if_neg hi]), below_to h.be hb, h.lj⟩
theorem GOX.set (h : GOX sd z s f m P G j w wr) (v : Value) : GOX sd z s f m P G j w (wr.setCell ⟨w.heap.size + 1 + 1 + 1, j, none⟩ v) :=
  have h2 := h.q.set j v
  ⟨h.g.far (by show _ ≠ w.heap.size + 1 + 1 + 1; omega) _, h.p.far (by show _ ≠ w.heap.size + 1 + 1 + 1; omega) _, h.r.far (by show _ ≠ w.heap.size + 1 + 1 + 1; omega) _, World.rowIs.congr h2 (fun i _ => by
    by_cases hi : i = j
    · subst hi
      rw [if_pos rfl]
      have h3 := h2.cell (i := i) (by have := h.lj; omega)
      simp only [if_true] at h3
      rw [at1_of h3]
      simp
    · simp [hi]), h.be.setCell (by show _ ≤ w.heap.size + 1 + 1 + 1; omega) _, h.lj⟩
theorem GOX.stepv (h : GOX sd z s f m P G j w wr) {v : Nat} (hv : v = G j) : GO sd z s f m P G (j + 1) w (wr.setCell ⟨w.heap.size + 1 + 1 + 1, j, none⟩ (.float .f32 v)) := by
  subst hv
  have hl := h.lj
  refine ⟨h.g.far (by show _ ≠ w.heap.size + 1 + 1 + 1; omega) _, h.p.far (by show _ ≠ w.heap.size + 1 + 1 + 1; omega) _, h.r.far (by show _ ≠ w.heap.size + 1 + 1 + 1; omega) _, ?_, h.be.setCell (by show _ ≤ w.heap.size + 1 + 1 + 1; omega) _⟩
  refine blk_of_row4 (f := fun i => .float .f32 (if i = 3 then cl (P 3) else if i < j + 1 then G i else 0)) (World.rowIs.congr (h.q.set j (.float .f32 (G j))) fun i hi => ?_)
  by_cases hi : i = j
  · subst hi
    simp [show ¬ i = 3 by omega]
  · by_cases h3 : i = 3
    · subst h3
      simp [show ¬ 3 = j by omega]
    · by_cases h2 : i < j
      · simp [hi, h3, h2, show i < j + 1 by omega]
      · simp [hi, h3, h2, show ¬ i < j + 1 by omega]
theorem GC.mk (h : GO sd z s f m P G j w wr) (hj : j < 3) : GC sd z s f m P G j w wr := (h.mid hj).held
theorem GC.on (hb : Below wr.heap.size wr w1) (h : GC sd z s f m P G j w wr) : GC sd z s f m P G j w w1 := GOX.held (h.2.2.2.2.below hb)
theorem GOX.dn (h : GOX sd z s f m P G j w wr) (n : Nat) : GC sd z s f m P G j w (wr.drewN n) := GOX.held (h.below (below_drewN (Below.refl _ _) n))
theorem GC.set (h : GC sd z s f m P G j w wr) (v : Value) : GC sd z s f m P G j w (wr.setCell ⟨w.heap.size + 1 + 1 + 1, j, none⟩ v) := GOX.held (h.2.2.2.2.set v)
theorem gra_of {nb lb s f c n : Nat} {w1 w2 w3 : World} (hn : cn .f32 nb = cn .f32 n) (hl : cn .f32 lb = cn .f32 (limC (cop .sub .f32 1065353216 (cop .mul .f32 f c)) 0 1065353216)) :
    cl (fop .add .f32 c (fop .mul .f32 (fop .mul .f32 nb s w1) lb w2) w3) = graK n s f c := by
  unfold graK cl
  exact (cnf rfl (cnf (cnf hn rfl) hl)).trans (cn_cop ..)
theorem goEnd {b : Nat} (h : Blk wr b 47 (pixA fun i => if i = 3 then cl (P 3) else if i < 3 then (fun k => graK (noiC sd z num x y (chM m k)) s f (P k)) i else 0)) : Blk wr b 47 (pixA (grp sd z num x y s f m P)) := h
end
theorem GO.new (sd z : Int) (s f : Nat) (m : Bool) (P G : Nat → Nat) (w : World) : GO sd z s f m P G 0 w ((((w.alloc (.cells (grnA sd z s f m) 45)).alloc (.cells (pixA P) 47)).alloc (.cells zpx 47)).alloc (.cells #[.float .f32 0, .float .f32 0, .float .f32 0, .float .f32 (cl (P 3))] 47)) :=
  ⟨(((Blk.new_at _ _ _ rfl).alloc _).alloc _).alloc _, ((Blk.new_at _ _ _ (by simp)).alloc _).alloc _, (Blk.new_at _ _ _ (by simp)).alloc _, Blk.new_at _ _ _ (by simp),
    ((((Below.refl _ _).alloc (Nat.le_refl _) _).alloc (by simp) _).alloc (by simp; omega) _).alloc (by simp; omega) _⟩

/-- What the loop over the four numbers keeps. -/
structure NI (sd z num x y : Int) (s f : Nat) (m : Bool) (P G : Nat → Nat) (j ub ch k : Nat) (w wr : World) : Prop where
  o : GO sd z s f m P G j w wr
  u : wr.rowIs ub 46 4 (fun i => .float .f32 (if i < k then noiA sd z num x y ch i else 0))
  lu : w.heap.size + 1 + 1 + 1 < ub
/-- The same in the midst of a round: cell k is whatever it is. -/
structure NIX (sd z num x y : Int) (s f : Nat) (m : Bool) (P G : Nat → Nat) (j ub ch k : Nat) (w wr : World) : Prop where
  o : GO sd z s f m P G j w wr
  u : wr.rowIs ub 46 4 (fun i => if i = k then at1 wr ub k else .float .f32 (if i < k then noiA sd z num x y ch i else 0))
  lu : w.heap.size + 1 + 1 + 1 < ub
abbrev NIC (sd z num x y : Int) (s f : Nat) (m : Bool) (P G : Nat → Nat) (j ub ch k : Nat) (w w' : World) : Prop :=
  w'.cell? ⟨w.heap.size, 0, none⟩ = some (.int .u32 sd) ∧ w'.cell? ⟨w.heap.size, 1, none⟩ = some (.int .i64 z) ∧ w'.cell? ⟨ub, k, none⟩ = some (at1 w' ub k) ∧ w'.frozen? ⟨ub, k, none⟩ = false ∧ NIX sd z num x y s f m P G j ub ch k w w'
section
variable {sd z num x y : Int} {s f j ub ch k : Nat} {m : Bool} {P G : Nat → Nat} {w wr w1 : World}
theorem NI.mid (h : NI sd z num x y s f m P G j ub ch k w wr) (hk : k < 4) : NIX sd z num x y s f m P G j ub ch k w wr :=
  ⟨h.o, World.rowIs.congr h.u (fun i _ => by
    by_cases hi : i = k
    · subst hi
      rw [if_pos rfl]
      exact (at1_of (h.u.cell hk)).symm
    · rw [if_neg hi]), h.lu⟩
theorem NIX.held (h : NIX sd z num x y s f m P G j ub ch k w wr) (hk : k < 4) : NIC sd z num x y s f m P G j ub ch k w wr :=
  ⟨h.o.g.cell 0, h.o.g.cell 1, by have := h.u.cell hk; rw [if_pos rfl] at this; exact this, h.u.frozen k, h⟩
theorem NIX.below (h : NIX sd z num x y s f m P G j ub ch k w wr) (hk : k < 4) (hb : Below wr.heap.size wr w1) : NIX sd z num x y s f m P G j ub ch k w w1 :=
  have h2 := rowIs_below h.u hb h.u.lt
  ⟨h.o.below hb, World.rowIs.congr h2 (fun i _ => by
    by_cases hi : i = k
    · subst hi
      rw [if_pos rfl, if_pos rfl]
      have h3 := h2.cell hk
      rw [if_pos rfl] at h3
      exact (at1_of h3).symm
    · rw [if_neg hi, if_neg hi]), h.lu⟩
theorem NIX.set (h : NIX sd z num x y s f m P G j ub ch k w wr) (hk : k < 4) (v : Value) : NIX sd z num x y s f m P G j ub ch k w (wr.setCell ⟨ub, k, none⟩ v) :=
  have h2 := h.u.set k v
  ⟨h.o.far h.lu _, World.rowIs.congr h2 (fun i _ => by
    by_cases hi : i = k
    · subst hi
      rw [if_pos rfl]
      have h3 := h2.cell hk
      simp only [if_true] at h3
      rw [at1_of h3]
      simp
    · simp [hi]), h.lu⟩
theorem NIX.stepv (h : NIX sd z num x y s f m P G j ub ch k w wr) {v : Nat} (hv : noiA sd z num x y ch k = v) : NI sd z num x y s f m P G j ub ch (k + 1) w (wr.setCell ⟨ub, k, none⟩ (.float .f32 v)) := by
  subst hv
  exact ⟨h.o.far h.lu _, World.rowIs.congr (h.u.set k _) (fun i _ => by
      by_cases hi : i = k
      · subst hi; simp
      · by_cases h2 : i < k
        · simp [hi, h2, show i < k + 1 by omega]
        · simp [hi, h2, show ¬ i < k + 1 by omega]), h.lu⟩
theorem NIX.drew (h : NIX sd z num x y s f m P G j ub ch k w wr) (hk : k < 4) : NIX sd z num x y s f m P G j ub ch k w wr.drew := h.below hk (Below.refl _ _).drew
end
theorem NIC.on {sd z num x y : Int} {s f j ub ch k : Nat} {m : Bool} {P G : Nat → Nat} {w wr w1 : World} (hb : Below wr.heap.size wr w1) (hk : k < 4) (h : NIC sd z num x y s f m P G j ub ch k w wr) : NIC sd z num x y s f m P G j ub ch k w w1 := NIX.held (h.2.2.2.2.below hk hb) hk
theorem NIC.set {sd z num x y : Int} {s f j ub ch k : Nat} {m : Bool} {P G : Nat → Nat} {w wr : World} (hk : k < 4) (h : NIC sd z num x y s f m P G j ub ch k w wr) (v : Value) : NIC sd z num x y s f m P G j ub ch k w (wr.setCell ⟨ub, k, none⟩ v) := NIX.held (h.2.2.2.2.set hk v) hk
theorem NI.new {sd z num x y : Int} {s f j : Nat} {m : Bool} {P G : Nat → Nat} {w wr : World} (ch : Nat) (h : GO sd z s f m P G j w wr) : NI sd z num x y s f m P G j wr.heap.size ch 0 w (wr.alloc (.cells #[.float .f32 0, .float .f32 0, .float .f32 0, .float .f32 0] 46)) :=
  ⟨h.below ((Below.refl _ _).alloc (Nat.le_refl _) _), World.rowIs.congr (f := fun _ => .float .f32 0) (row4_of_blk (f := fun _ => .float .f32 0) (Blk.new_at _ _ _ rfl)) (fun i _ => by simp), h.q.lt⟩

set_option maxRecDepth 100000 in
set_option maxHeartbeats 8000000 in
theorem grainedOf_false (sd z num x y : Int) (s f : Nat) (P : Nat → Nat) (w : World) (z1 : 1 ≤ z) (z2 : z ≤ 16) (x1 : -1048576 ≤ x) (x2 : x ≤ 1048576) (y1 : -1048576 ≤ y) (y2 : y ≤ 1048576) :
    Calls Try.prog 25 #[grn sd z s f false, .int .i64 num, .int .i64 x, .int .i64 y, pix P] w fun e w' => e = .returned (.agg (pixA (grp sd z num x y s f false P))) ∧ Below w.heap.size w w' := by
  have HQX : RowKit.Hid (∀ wz, Calls Try.prog 79 #[.int .i64 x, .int .i64 z] wz fun e w' => e = .returned (.int .i64 (x / z)) ∧ wz = w') := hid fun wz => floorOver_any x z wz z1 z2 x1 x2
  have HQY : RowKit.Hid (∀ wz, Calls Try.prog 79 #[.int .i64 y, .int .i64 z] wz fun e w' => e = .returned (.int .i64 (y / z)) ∧ wz = w') := hid fun wz => floorOver_any y z wz z1 z2 y1 y2
  obtain ⟨G, hG⟩ : ∃ G : Nat → Nat, G = fun k => graK (noiC sd z num x y (chM false k)) s f (P k) := ⟨_, rfl⟩
  have HGG : RowKit.Hid (∀ k, G k = graK (noiC sd z num x y (chM false k)) s f (P k)) := hid fun k => by rw [hG]
  have HE : RowKit.Hid (∀ wr, GO sd z s f false P G 3 w wr → Blk wr (w.heap.size + 1 + 1 + 1) 47 (pixA (grp sd z num x y s f false P))) := hid fun wr h => by
    have h2 := h.q
    rw [hG] at h2
    exact goEnd h2
  clear z1 z2 x1 x2 y1 y2 hG
  rw [pix_cells P]
  go_enter Try.func25, Try.ntmps25
  go_wp2_with (go_at_call 42; refine (fix_any _ _).mono ?_; rintro e w' ⟨rfl, rfl⟩)
  go_loopw [22] (fun i wr => ∃ j : Nat, j ≤ 3 ∧ i = .int .i64 j ∧ GO sd z s f false P G j w wr) (fun i _ => 3 - (intOf i).toNat)
  case atStart => exact ⟨0, by omega, rfl, GO.new sd z s f false P G w⟩
  case round =>
    obtain ⟨j, hj, rfl, hr⟩ := hrel
    have HR := hid hr
    clear hr
    by_cases hj3 : j < 3
    · have g4 := HR.out.g.cell 4
      simp at g4
      have j1 : (j : Int) ≤ 2 := by omega
      have j0 : (0 : Int) ≤ (j : Int) := by omega
      have j4 : (j : Int) < 4 := by omega
      have hw3 : IntKind.i64.wrap (j : Int) = (j : Int) := by rw [IntKind.wrap_i64]; omega
      go_wp2_with fail
      have HN := hid (NI.new (num := num) (x := x) (y := y) j HR.out)
      have hub := HR.out.q.lt
      have hbu : Below wr.heap.size wr (wr.alloc (.cells #[.float .f32 0, .float .f32 0, .float .f32 0, .float .f32 0] 46)) := (Below.refl _ _).alloc (Nat.le_refl _) _
      have hd : decide ((j : Int) < 3) = true := decide_eq_true (by omega)
      clear hbu hub HR g4
      rw [hd]
      clear hd
      generalize wr.heap.size = ub at *
      go_loopw [28] (fun i wx => ∃ k : Nat, k ≤ 4 ∧ i = .int .i64 k ∧ NI sd z num x y s f false P G j ub j k w wx) (fun i _ => 4 - (intOf i).toNat)
      case atStart => exact ⟨0, by omega, rfl, HN.out⟩
      case round =>
        clear HN
        obtain ⟨k, hk, rfl, hr2⟩ := hrel
        have HR2 := hid hr2
        clear hr2
        by_cases hk4 : k < 4
        · have HH := hid (((HR2.out.mid hk4).drew hk4).held hk4)
          have k1 : (k : Int) ≤ 3 := by omega
          have k3 : (0 : Int) ≤ (k : Int) := by omega
          have hw0 : IntKind.i64.wrap (k : Int) = (k : Int) := by rw [IntKind.wrap_i64]; omega
          have hw1 : IntKind.i64.wrap (4 * (j : Int) + k) = 4 * (j : Int) + k := by rw [IntKind.wrap_i64]; omega
          have hw2 : IntKind.i64.wrap (4 * (j : Int)) = 4 * (j : Int) := by rw [IntKind.wrap_i64]; omega
          obtain ⟨hv, hhv⟩ : ∃ hv, hv = hashC (bits .xor .u32 sd (IntKind.u32.wrap num)) (x / z) (y / z) ((4 * j + k : Nat) : Int) := ⟨_, rfl⟩
          have HNV : RowKit.Hid (noiA sd z num x y j k = unitC hv) := hid (by rw [hhv]; rfl)
          have HHA : RowKit.Hid (∀ wz a, a = ((4 * j + k : Nat) : Int) → Calls Try.prog 78 #[.int .u32 (bits .xor .u32 sd (IntKind.u32.wrap num)), .int .i64 (x / z), .int .i64 (y / z), .int .i64 a] wz fun e w' => e = .returned (.int .u32 hv) ∧ Below wz.heap.size wz w') := hid fun wz a ha => by
            rw [ha]
            have h := hashr_any (bits .xor .u32 sd (IntKind.u32.wrap num)) (x / z) (y / z) ((4 * j + k : Nat) : Int) wz
            rw [← hhv] at h
            exact h
          clear hhv
          go_wp2_with fail
          go_region_held3 (fun w' => w'.cell? ⟨w.heap.size, 0, none⟩ = some (.int .u32 sd) ∧ w'.cell? ⟨w.heap.size, 1, none⟩ = some (.int .i64 z) ∧ w'.cell? ⟨ub, k, none⟩ = some (at1 w' ub k) ∧ w'.frozen? ⟨ub, k, none⟩ = false ∧ NIX sd z num x y s f false P G j ub j k w w')
            (first | (with_reducible exact HH.out) | (with_reducible exact NIC.on (by assumption) hk4 (by assumption)) | (with_reducible exact NIC.set hk4 (by assumption) _) | (with_reducible exact NIC.set hk4 (NIX.held (by assumption) hk4) _) | (with_reducible assumption))
            (first
              | (go_at_call 79; with_reducible refine (HQX.out _).mono ?_; rintro e w' ⟨rfl, rfl⟩)
              | (go_at_call 79; with_reducible refine (HQY.out _).mono ?_; rintro e w' ⟨rfl, rfl⟩)
              | (go_at_call 78; with_reducible refine (HHA.out _ _ (by first | omega | (simp only [IntKind.wrap_i64]; omega))).mono ?_; rintro e w1 ⟨rfl, hb⟩; have HO1 := (NIC.on hb hk4 (by first | assumption | (go_split_ands; assumption))).2.2.2.2)
              | (go_at_call 77; with_reducible refine (unitOf_any _ _).mono ?_; rintro e w' ⟨rfl, rfl⟩))
          all_goals
            have HS := hid (NIX.stepv HO1 HNV.out)
            go_wp2_with fail
            go_roundw
            case rel =>
              exact ⟨k + 1, by omega, by go_num, HS.out⟩
            case measure => simp [intOf]; omega
        · obtain rfl : k = 4 := by omega
          have u0 := HR2.out.u.cell (i := 0) (by omega)
          have u1 := HR2.out.u.cell (i := 1) (by omega)
          have u2 := HR2.out.u.cell (i := 2) (by omega)
          have u3 := HR2.out.u.cell (i := 3) (by omega)
          simp at u0 u1 u2 u3
          obtain ⟨n0, h0⟩ : ∃ v, v = noiA sd z num x y j 0 := ⟨_, rfl⟩
          obtain ⟨n1, h1⟩ : ∃ v, v = noiA sd z num x y j 1 := ⟨_, rfl⟩
          obtain ⟨n2, h2⟩ : ∃ v, v = noiA sd z num x y j 2 := ⟨_, rfl⟩
          obtain ⟨n3, h3⟩ : ∃ v, v = noiA sd z num x y j 3 := ⟨_, rfl⟩
          have HC : RowKit.Hid (noiC sd z num x y j = cop .sub .f32 (cop .mul .f32 (cop .add .f32 (cop .add .f32 n0 n1) (cop .add .f32 n2 n3)) 1056964608) 1065353216) := hid (by rw [h0, h1, h2, h3]; rfl)
          rw [← h0] at u0
          rw [← h1] at u1
          rw [← h2] at u2
          rw [← h3] at u3
          have HRO := hid HR2.out.o
          have p0 := HRO.out.p.cell j
          have s2 := HRO.out.g.cell 2
          have s3 := HRO.out.g.cell 3
          simp at s2 s3
          rw [show (pixA P)[j]? = some (.float .f32 (P j)) from pixA_get P j (by omega)] at p0
          clear h0 h1 h2 h3 HR2 HQX HQY
          go_wp2_with fail
          generalize hnb : fop .sub .f32 (fop .mul .f32 _ _ _) 1065353216 _ = nb
          have HNB : RowKit.Hid (cn .f32 nb = cn .f32 (noiC sd z num x y j)) := by
            show cn .f32 nb = _
            rw [HC.out, ← hnb]
            exact cnf (cnf (cnf (cnf rfl rfl) (cnf rfl rfl)) rfl) rfl
          clear hnb HC u0 u1 u2 u3
          go_name_world wq hwq
          have HQ : RowKit.Hid (GO sd z s f false P G j w wq) := by
            show GO sd z s f false P G j w wq
            rw [← hwq]
            exact HRO.out.below (below_drewN (Below.refl _ _) _)
          clear hwq HRO p0 s2 s3
          have p0 := HQ.out.p.cell j
          have s3 := HQ.out.g.cell 3
          simp at s3
          rw [show (pixA P)[j]? = some (.float .f32 (P j)) from pixA_get P j (by omega)] at p0
          have HD3 := hid (show GO sd z s f false P G j w wq.drew from HQ.out.below (Below.refl _ _).drew)
          have d0 : wq.drew.cell? ⟨w.heap.size + 1, j, none⟩ = some (.float .f32 (P j)) := by
            have := HD3.out.p.cell j
            rw [show (pixA P)[j]? = some (.float .f32 (P j)) from pixA_get P j (by omega)] at this
            exact this
          have d3 := HD3.out.g.cell 3
          simp at d3
          rw [show Op.binOp BinOp.mul 40 (Operand.tmp 67) (Operand.tmp 70) 40 = adOp BinOp.mul 40 (Operand.tmp 67) (Operand.tmp 70) 40 from rfl]
          rw [show Op.binOp BinOp.sub 40 (Operand.const (Value.float FloatKind.f32 1065353216)) (Operand.tmp 71) 40 = adOp BinOp.sub 40 (Operand.const (Value.float FloatKind.f32 1065353216)) (Operand.tmp 71) 40 from rfl]
          go_region_held3 (fun w' => w'.cell? ⟨w.heap.size, 3, none⟩ = some (.float .f32 f) ∧ w'.cell? ⟨w.heap.size + 1, j, none⟩ = some (.float .f32 (P j)))
            (first | exact ⟨d3, d0⟩ | assumption)
            (first | (go_at_call 43; with_reducible refine (limr_any _ _ _ _).mono ?_; rintro e w' ⟨rfl, rfl⟩))
          rename_i hH
          clear hH d0 d3 p0 s3 HD3
          go_upto_region 16 with fail
          generalize hlb : limC (fop .sub .f32 1065353216 (fop .mul .f32 f (P j) _) _) 0 1065353216 = lb
          have HLB : RowKit.Hid (cn .f32 lb = cn .f32 (limC (cop .sub .f32 1065353216 (cop .mul .f32 f (P j))) 0 1065353216)) := by
            show cn .f32 lb = _
            rw [← hlb]
            exact congrArg (cn .f32) (limC_of (cnf rfl (cnf rfl rfl)) _ _)
          clear hlb
          go_name_world wz hwz
          have HZ : RowKit.Hid (GOX sd z s f false P G j w wz) := by
            show GOX sd z s f false P G j w wz
            rw [← hwz]
            exact GO.mid (HQ.out.below (by first | exact (below_drewN (Below.refl _ _) _) | exact (below_drewN (below_drewN (Below.refl _ _) _) _))) (by omega)
          clear hwz HQ
          have HST := hid (fun w1 w2 w3 => (gra_of (w1 := w1) (w2 := w2) (w3 := w3) (c := P j) (s := s) (f := f) HNB.out HLB.out).trans (HGG.out j).symm)
          rw [show Op.binOp BinOp.mul 40 (Operand.tmp 78) (Operand.tmp 80) 40 = adOp BinOp.mul 40 (Operand.tmp 78) (Operand.tmp 80) 40 from rfl]
          rw [show Op.binOp BinOp.mul 40 (Operand.tmp 81) (Operand.tmp 82) 40 = adOp BinOp.mul 40 (Operand.tmp 81) (Operand.tmp 82) 40 from rfl]
          rw [show Op.binOp BinOp.add 40 (Operand.tmp 77) (Operand.tmp 83) 40 = adOp BinOp.add 40 (Operand.tmp 77) (Operand.tmp 83) 40 from rfl]
          go_region_held3 (fun w' => w'.cell? ⟨w.heap.size, 2, none⟩ = some (.float .f32 s) ∧ w'.cell? ⟨w.heap.size + 1, j, none⟩ = some (.float .f32 (P j)) ∧ w'.cell? ⟨w.heap.size + 1 + 1 + 1, j, none⟩ = some (at1 w' (w.heap.size + 1 + 1 + 1) j) ∧ w'.frozen? ⟨w.heap.size + 1 + 1 + 1, j, none⟩ = false ∧ GOX sd z s f false P G j w w')
            (first | (with_reducible exact (HZ.out.below (Below.refl _ _).drew).held) | (with_reducible exact GOX.dn HZ.out _) | (with_reducible exact GC.on (by assumption) (by assumption)) | (with_reducible exact GC.set (by assumption) _) | (with_reducible assumption))
            (first | (go_at_call 42; with_reducible refine (fix_any _ _).mono ?_; rintro e w' ⟨rfl, rfl⟩))
          rename_i hH
          clear hH
          generalize hv : cl (fop .add .f32 (P j) _ _) = v
          have HV : RowKit.Hid (v = G j) := by
            show v = G j
            rw [← hv]
            exact HST.out _ _ _
          clear hv
          have HS := hid (fun n => show GO sd z s f false P G (j + 1) w ((wz.drewN n).setCell ⟨w.heap.size + 1 + 1 + 1, j, none⟩ (.float .f32 v)) from (HZ.out.below (below_drewN (Below.refl _ _) n)).stepv HV.out)
          clear HZ HST HV HNB HLB
          go_wp2_with fail
          go_roundw
          case rel => exact ⟨j + 1, by omega, by go_num, HS.out _⟩
          case measure => simp [intOf]; omega
    · obtain rfl : j = 3 := by omega
      have hq := HE.out _ HR.out
      have q0 := hq.cell 0
      have q1 := hq.cell 1
      have q2 := hq.cell 2
      have q3 := hq.cell 3
      have r0 := HR.out.r.cell 0
      have r1 := HR.out.r.cell 1
      have r2 := HR.out.r.cell 2
      have r3 := HR.out.r.cell 3
      have fz := fun i => HR.out.r.frozen i
      simp at q0 q1 q2 q3 r0 r1 r2 r3
      have HRR := hid HR.out.r
      have HBE := hid HR.out.be
      clear hq HR HE HGG HQX HQY
      obtain ⟨g, hg⟩ : ∃ g, g = grp sd z num x y s f false P := ⟨_, rfl⟩
      rw [← hg] at q0 q1 q2 q3
      have HGE := hid hg
      clear hg
      have HBK := hid (HRR.out.set4 (.float .f32 (g 0)) (.float .f32 (g 1)) (.float .f32 (g 2)) (.float .f32 (g 3)))
      go_wp2_with fail
      refine bodyPost_ret (v := .agg (pixA g)) (results_cell_row rfl _ _ _ _ _ _ _ rfl HBK.out Try.underlying47 rfl (by kernel_rfl)) rfl ⟨by rw [HGE.out], ?_⟩
      exact (((HBE.out.setCell (by simp; omega) _).setCell (by simp; omega) _).setCell (by simp; omega) _).setCell (by simp; omega) _

set_option maxRecDepth 100000 in
set_option maxHeartbeats 8000000 in
theorem grainedOf_true (sd z num x y : Int) (s f : Nat) (P : Nat → Nat) (w : World) (z1 : 1 ≤ z) (z2 : z ≤ 16) (x1 : -1048576 ≤ x) (x2 : x ≤ 1048576) (y1 : -1048576 ≤ y) (y2 : y ≤ 1048576) :
    Calls Try.prog 25 #[grn sd z s f true, .int .i64 num, .int .i64 x, .int .i64 y, pix P] w fun e w' => e = .returned (.agg (pixA (grp sd z num x y s f true P))) ∧ Below w.heap.size w w' := by
  have HQX : RowKit.Hid (∀ wz, Calls Try.prog 79 #[.int .i64 x, .int .i64 z] wz fun e w' => e = .returned (.int .i64 (x / z)) ∧ wz = w') := hid fun wz => floorOver_any x z wz z1 z2 x1 x2
  have HQY : RowKit.Hid (∀ wz, Calls Try.prog 79 #[.int .i64 y, .int .i64 z] wz fun e w' => e = .returned (.int .i64 (y / z)) ∧ wz = w') := hid fun wz => floorOver_any y z wz z1 z2 y1 y2
  obtain ⟨G, hG⟩ : ∃ G : Nat → Nat, G = fun k => graK (noiC sd z num x y (chM true k)) s f (P k) := ⟨_, rfl⟩
  have HGG : RowKit.Hid (∀ k, G k = graK (noiC sd z num x y (chM true k)) s f (P k)) := hid fun k => by rw [hG]
  have HE : RowKit.Hid (∀ wr, GO sd z s f true P G 3 w wr → Blk wr (w.heap.size + 1 + 1 + 1) 47 (pixA (grp sd z num x y s f true P))) := hid fun wr h => by
    have h2 := h.q
    rw [hG] at h2
    exact goEnd h2
  clear z1 z2 x1 x2 y1 y2 hG
  rw [pix_cells P]
  go_enter Try.func25, Try.ntmps25
  go_wp2_with (go_at_call 42; refine (fix_any _ _).mono ?_; rintro e w' ⟨rfl, rfl⟩)
  go_loopw [22] (fun i wr => ∃ j : Nat, j ≤ 3 ∧ i = .int .i64 j ∧ GO sd z s f true P G j w wr) (fun i _ => 3 - (intOf i).toNat)
  case atStart => exact ⟨0, by omega, rfl, GO.new sd z s f true P G w⟩
  case round =>
    obtain ⟨j, hj, rfl, hr⟩ := hrel
    have HR := hid hr
    clear hr
    by_cases hj3 : j < 3
    · have g4 := HR.out.g.cell 4
      simp at g4
      have j1 : (j : Int) ≤ 2 := by omega
      have j0 : (0 : Int) ≤ (j : Int) := by omega
      have j4 : (j : Int) < 4 := by omega
      have hw3 : IntKind.i64.wrap (j : Int) = (j : Int) := by rw [IntKind.wrap_i64]; omega
      go_wp2_with fail
      have HN := hid (NI.new (num := num) (x := x) (y := y) 0 HR.out)
      have hub := HR.out.q.lt
      have hbu : Below wr.heap.size wr (wr.alloc (.cells #[.float .f32 0, .float .f32 0, .float .f32 0, .float .f32 0] 46)) := (Below.refl _ _).alloc (Nat.le_refl _) _
      have hd : decide ((j : Int) < 3) = true := decide_eq_true (by omega)
      clear hbu hub HR g4
      rw [hd]
      clear hd
      generalize wr.heap.size = ub at *
      go_loopw [28] (fun i wx => ∃ k : Nat, k ≤ 4 ∧ i = .int .i64 k ∧ NI sd z num x y s f true P G j ub 0 k w wx) (fun i _ => 4 - (intOf i).toNat)
      case atStart => exact ⟨0, by omega, rfl, HN.out⟩
      case round =>
        clear HN
        obtain ⟨k, hk, rfl, hr2⟩ := hrel
        have HR2 := hid hr2
        clear hr2
        by_cases hk4 : k < 4
        · have HH := hid (((HR2.out.mid hk4).drew hk4).held hk4)
          have k1 : (k : Int) ≤ 3 := by omega
          have k3 : (0 : Int) ≤ (k : Int) := by omega
          have hw0 : IntKind.i64.wrap (k : Int) = (k : Int) := by rw [IntKind.wrap_i64]; omega
          obtain ⟨hv, hhv⟩ : ∃ hv, hv = hashC (bits .xor .u32 sd (IntKind.u32.wrap num)) (x / z) (y / z) ((4 * 0 + k : Nat) : Int) := ⟨_, rfl⟩
          have HNV : RowKit.Hid (noiA sd z num x y 0 k = unitC hv) := hid (by rw [hhv]; rfl)
          have HHA : RowKit.Hid (∀ wz a, a = ((4 * 0 + k : Nat) : Int) → Calls Try.prog 78 #[.int .u32 (bits .xor .u32 sd (IntKind.u32.wrap num)), .int .i64 (x / z), .int .i64 (y / z), .int .i64 a] wz fun e w' => e = .returned (.int .u32 hv) ∧ Below wz.heap.size wz w') := hid fun wz a ha => by
            rw [ha]
            have h := hashr_any (bits .xor .u32 sd (IntKind.u32.wrap num)) (x / z) (y / z) ((4 * 0 + k : Nat) : Int) wz
            rw [← hhv] at h
            exact h
          clear hhv
          go_wp2_with fail
          go_region_held3 (fun w' => w'.cell? ⟨w.heap.size, 0, none⟩ = some (.int .u32 sd) ∧ w'.cell? ⟨w.heap.size, 1, none⟩ = some (.int .i64 z) ∧ w'.cell? ⟨ub, k, none⟩ = some (at1 w' ub k) ∧ w'.frozen? ⟨ub, k, none⟩ = false ∧ NIX sd z num x y s f true P G j ub 0 k w w')
            (first | (with_reducible exact HH.out) | (with_reducible exact NIC.on (by assumption) hk4 (by assumption)) | (with_reducible exact NIC.set hk4 (by assumption) _) | (with_reducible exact NIC.set hk4 (NIX.held (by assumption) hk4) _) | (with_reducible assumption))
            (first
              | (go_at_call 79; with_reducible refine (HQX.out _).mono ?_; rintro e w' ⟨rfl, rfl⟩)
              | (go_at_call 79; with_reducible refine (HQY.out _).mono ?_; rintro e w' ⟨rfl, rfl⟩)
              | (go_at_call 78; with_reducible refine (HHA.out _ _ (by first | omega | (simp only [IntKind.wrap_i64]; omega))).mono ?_; rintro e w1 ⟨rfl, hb⟩; have HO1 := (NIC.on hb hk4 (by first | assumption | (go_split_ands; assumption))).2.2.2.2)
              | (go_at_call 77; with_reducible refine (unitOf_any _ _).mono ?_; rintro e w' ⟨rfl, rfl⟩))
          all_goals
            have HS := hid (NIX.stepv HO1 HNV.out)
            go_wp2_with fail
            go_roundw
            case rel =>
              exact ⟨k + 1, by omega, by go_num, HS.out⟩
            case measure => simp [intOf]; omega
        · obtain rfl : k = 4 := by omega
          have u0 := HR2.out.u.cell (i := 0) (by omega)
          have u1 := HR2.out.u.cell (i := 1) (by omega)
          have u2 := HR2.out.u.cell (i := 2) (by omega)
          have u3 := HR2.out.u.cell (i := 3) (by omega)
          simp at u0 u1 u2 u3
          obtain ⟨n0, h0⟩ : ∃ v, v = noiA sd z num x y 0 0 := ⟨_, rfl⟩
          obtain ⟨n1, h1⟩ : ∃ v, v = noiA sd z num x y 0 1 := ⟨_, rfl⟩
          obtain ⟨n2, h2⟩ : ∃ v, v = noiA sd z num x y 0 2 := ⟨_, rfl⟩
          obtain ⟨n3, h3⟩ : ∃ v, v = noiA sd z num x y 0 3 := ⟨_, rfl⟩
          have HC : RowKit.Hid (noiC sd z num x y 0 = cop .sub .f32 (cop .mul .f32 (cop .add .f32 (cop .add .f32 n0 n1) (cop .add .f32 n2 n3)) 1056964608) 1065353216) := hid (by rw [h0, h1, h2, h3]; rfl)
          rw [← h0] at u0
          rw [← h1] at u1
          rw [← h2] at u2
          rw [← h3] at u3
          have HRO := hid HR2.out.o
          have p0 := HRO.out.p.cell j
          have s2 := HRO.out.g.cell 2
          have s3 := HRO.out.g.cell 3
          simp at s2 s3
          rw [show (pixA P)[j]? = some (.float .f32 (P j)) from pixA_get P j (by omega)] at p0
          clear h0 h1 h2 h3 HR2 HQX HQY
          go_wp2_with fail
          generalize hnb : fop .sub .f32 (fop .mul .f32 _ _ _) 1065353216 _ = nb
          have HNB : RowKit.Hid (cn .f32 nb = cn .f32 (noiC sd z num x y 0)) := by
            show cn .f32 nb = _
            rw [HC.out, ← hnb]
            exact cnf (cnf (cnf (cnf rfl rfl) (cnf rfl rfl)) rfl) rfl
          clear hnb HC u0 u1 u2 u3
          go_name_world wq hwq
          have HQ : RowKit.Hid (GO sd z s f true P G j w wq) := by
            show GO sd z s f true P G j w wq
            rw [← hwq]
            exact HRO.out.below (below_drewN (Below.refl _ _) _)
          clear hwq HRO p0 s2 s3
          have p0 := HQ.out.p.cell j
          have s3 := HQ.out.g.cell 3
          simp at s3
          rw [show (pixA P)[j]? = some (.float .f32 (P j)) from pixA_get P j (by omega)] at p0
          have HD3 := hid (show GO sd z s f true P G j w wq.drew from HQ.out.below (Below.refl _ _).drew)
          have d0 : wq.drew.cell? ⟨w.heap.size + 1, j, none⟩ = some (.float .f32 (P j)) := by
            have := HD3.out.p.cell j
            rw [show (pixA P)[j]? = some (.float .f32 (P j)) from pixA_get P j (by omega)] at this
            exact this
          have d3 := HD3.out.g.cell 3
          simp at d3
          rw [show Op.binOp BinOp.mul 40 (Operand.tmp 67) (Operand.tmp 70) 40 = adOp BinOp.mul 40 (Operand.tmp 67) (Operand.tmp 70) 40 from rfl]
          rw [show Op.binOp BinOp.sub 40 (Operand.const (Value.float FloatKind.f32 1065353216)) (Operand.tmp 71) 40 = adOp BinOp.sub 40 (Operand.const (Value.float FloatKind.f32 1065353216)) (Operand.tmp 71) 40 from rfl]
          go_region_held3 (fun w' => w'.cell? ⟨w.heap.size, 3, none⟩ = some (.float .f32 f) ∧ w'.cell? ⟨w.heap.size + 1, j, none⟩ = some (.float .f32 (P j)))
            (first | exact ⟨d3, d0⟩ | assumption)
            (first | (go_at_call 43; with_reducible refine (limr_any _ _ _ _).mono ?_; rintro e w' ⟨rfl, rfl⟩))
          rename_i hH
          clear hH d0 d3 p0 s3 HD3
          go_upto_region 16 with fail
          generalize hlb : limC (fop .sub .f32 1065353216 (fop .mul .f32 f (P j) _) _) 0 1065353216 = lb
          have HLB : RowKit.Hid (cn .f32 lb = cn .f32 (limC (cop .sub .f32 1065353216 (cop .mul .f32 f (P j))) 0 1065353216)) := by
            show cn .f32 lb = _
            rw [← hlb]
            exact congrArg (cn .f32) (limC_of (cnf rfl (cnf rfl rfl)) _ _)
          clear hlb
          go_name_world wz hwz
          have HZ : RowKit.Hid (GOX sd z s f true P G j w wz) := by
            show GOX sd z s f true P G j w wz
            rw [← hwz]
            exact GO.mid (HQ.out.below (by first | exact (below_drewN (Below.refl _ _) _) | exact (below_drewN (below_drewN (Below.refl _ _) _) _))) (by omega)
          clear hwz HQ
          have HST := hid (fun w1 w2 w3 => (gra_of (w1 := w1) (w2 := w2) (w3 := w3) (c := P j) (s := s) (f := f) HNB.out HLB.out).trans (HGG.out j).symm)
          rw [show Op.binOp BinOp.mul 40 (Operand.tmp 78) (Operand.tmp 80) 40 = adOp BinOp.mul 40 (Operand.tmp 78) (Operand.tmp 80) 40 from rfl]
          rw [show Op.binOp BinOp.mul 40 (Operand.tmp 81) (Operand.tmp 82) 40 = adOp BinOp.mul 40 (Operand.tmp 81) (Operand.tmp 82) 40 from rfl]
          rw [show Op.binOp BinOp.add 40 (Operand.tmp 77) (Operand.tmp 83) 40 = adOp BinOp.add 40 (Operand.tmp 77) (Operand.tmp 83) 40 from rfl]
          go_region_held3 (fun w' => w'.cell? ⟨w.heap.size, 2, none⟩ = some (.float .f32 s) ∧ w'.cell? ⟨w.heap.size + 1, j, none⟩ = some (.float .f32 (P j)) ∧ w'.cell? ⟨w.heap.size + 1 + 1 + 1, j, none⟩ = some (at1 w' (w.heap.size + 1 + 1 + 1) j) ∧ w'.frozen? ⟨w.heap.size + 1 + 1 + 1, j, none⟩ = false ∧ GOX sd z s f true P G j w w')
            (first | (with_reducible exact (HZ.out.below (Below.refl _ _).drew).held) | (with_reducible exact GOX.dn HZ.out _) | (with_reducible exact GC.on (by assumption) (by assumption)) | (with_reducible exact GC.set (by assumption) _) | (with_reducible assumption))
            (first | (go_at_call 42; with_reducible refine (fix_any _ _).mono ?_; rintro e w' ⟨rfl, rfl⟩))
          rename_i hH
          clear hH
          generalize hv : cl (fop .add .f32 (P j) _ _) = v
          have HV : RowKit.Hid (v = G j) := by
            show v = G j
            rw [← hv]
            exact HST.out _ _ _
          clear hv
          have HS := hid (fun n => show GO sd z s f true P G (j + 1) w ((wz.drewN n).setCell ⟨w.heap.size + 1 + 1 + 1, j, none⟩ (.float .f32 v)) from (HZ.out.below (below_drewN (Below.refl _ _) n)).stepv HV.out)
          clear HZ HST HV HNB HLB
          go_wp2_with fail
          go_roundw
          case rel => exact ⟨j + 1, by omega, by go_num, HS.out _⟩
          case measure => simp [intOf]; omega
    · obtain rfl : j = 3 := by omega
      have hq := HE.out _ HR.out
      have q0 := hq.cell 0
      have q1 := hq.cell 1
      have q2 := hq.cell 2
      have q3 := hq.cell 3
      have r0 := HR.out.r.cell 0
      have r1 := HR.out.r.cell 1
      have r2 := HR.out.r.cell 2
      have r3 := HR.out.r.cell 3
      have fz := fun i => HR.out.r.frozen i
      simp at q0 q1 q2 q3 r0 r1 r2 r3
      have HRR := hid HR.out.r
      have HBE := hid HR.out.be
      clear hq HR HE HGG HQX HQY
      obtain ⟨g, hg⟩ : ∃ g, g = grp sd z num x y s f true P := ⟨_, rfl⟩
      rw [← hg] at q0 q1 q2 q3
      have HGE := hid hg
      clear hg
      have HBK := hid (HRR.out.set4 (.float .f32 (g 0)) (.float .f32 (g 1)) (.float .f32 (g 2)) (.float .f32 (g 3)))
      go_wp2_with fail
      refine bodyPost_ret (v := .agg (pixA g)) (results_cell_row rfl _ _ _ _ _ _ _ rfl HBK.out Try.underlying47 rfl (by kernel_rfl)) rfl ⟨by rw [HGE.out], ?_⟩
      exact (((HBE.out.setCell (by simp; omega) _).setCell (by simp; omega) _).setCell (by simp; omega) _).setCell (by simp; omega) _

theorem grainedOf_any (sd z num x y : Int) (s f : Nat) (m : Bool) (P : Nat → Nat) (w : World) (z1 : 1 ≤ z) (z2 : z ≤ 16) (x1 : -1048576 ≤ x) (x2 : x ≤ 1048576) (y1 : -1048576 ≤ y) (y2 : y ≤ 1048576) :
    Calls Try.prog 25 #[grn sd z s f m, .int .i64 num, .int .i64 x, .int .i64 y, pix P] w fun e w' => e = .returned (.agg (pixA (grp sd z num x y s f m P))) ∧ Below w.heap.size w w' := by
  cases m
  · exact grainedOf_false sd z num x y s f P w z1 z2 x1 x2 y1 y2
  · exact grainedOf_true sd z num x y s f P w z1 z2 x1 x2 y1 y2

end Go.Proofs.Ythoiiccecneefaa
