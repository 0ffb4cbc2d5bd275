/-
  The noise of grain, of the program.
-/
import Derived.Test.YthoiiccecneefaaQGe
import Derived.Deep.RegionHeld3
namespace Go.Proofs.Ythoiiccecneefaa
open Go.RowKit Go.Shelf
attribute [local go_sem] run_store_float

theorem cop_cn' (op : BinOp) (k : FloatKind) (x y : Nat) : cop op k x y = cop op k (cn k x) (cn k y) := by unfold cop; rw [floatBits_cn]
theorem cnf {op : BinOp} {k : FloatKind} {a b a' b' : Nat} {w : World} (ha : cn k a = cn k a') (hb : cn k b = cn k b') : cn k (fop op k a b w) = cn k (cop op k a' b') := by
  rw [cn_fop, cn_cop, ha, hb, ← cop_cn']

/-- The four numbers that a noise is made of. -/
def noiA (sd z num x y : Int) (ch : Nat) (n : Nat) : Nat := unitC (hashC (bits .xor .u32 sd (IntKind.u32.wrap num)) (x / z) (y / z) ((4 * ch + n : Nat) : Int))
def noiC (sd z num x y : Int) (ch : Nat) : Nat :=
  cop .sub .f32 (cop .mul .f32 (cop .add .f32 (cop .add .f32 (noiA sd z num x y ch 0) (noiA sd z num x y ch 1)) (cop .add .f32 (noiA sd z num x y ch 2) (noiA sd z num x y ch 3))) 1056964608) 1065353216

/-- What the loop of noiseAt keeps. -/
structure NR (sd z : Int) (s f : Nat) (m : Bool) (num x y : Int) (ch k : Nat) (w wr : World) : Prop where
  g : Blk wr w.heap.size 45 (grnA sd z s f m)
  u : wr.rowIs (w.heap.size + 1) 46 4 (fun j => .float .f32 (if j < k then noiA sd z num x y ch j else 0))
  be : Below w.heap.size w wr
/-- The cell itself. -/
def at1 (w' : World) (b k : Nat) : Value := (w'.cell? ⟨b, k, none⟩).getD undef
theorem at1_of {w' : World} {b k : Nat} {v : Value} (h : w'.cell? ⟨b, k, none⟩ = some v) : at1 w' b k = v := by unfold at1; rw [h]; rfl
/-- The same in the midst of a round: cell k is whatever it is. -/
structure NRX (sd z : Int) (s f : Nat) (m : Bool) (num x y : Int) (ch k : Nat) (w wr : World) : Prop where
  g : Blk wr w.heap.size 45 (grnA sd z s f m)
  u : wr.rowIs (w.heap.size + 1) 46 4 (fun j => if j = k then at1 wr (w.heap.size + 1) k else .float .f32 (if j < k then noiA sd z num x y ch j else 0))
  be : Below w.heap.size w wr
abbrev NRC (sd z : Int) (s f : Nat) (m : Bool) (num x y : Int) (ch k : Nat) (w w' : World) : Prop :=
  w'.cell? ⟨w.heap.size, 0, none⟩ = some (.int .u32 sd) ∧ w'.cell? ⟨w.heap.size, 1, none⟩ = some (.int .i64 z) ∧ w'.cell? ⟨w.heap.size + 1, k, none⟩ = some (at1 w' (w.heap.size + 1) k) ∧ w'.frozen? ⟨w.heap.size + 1, k, none⟩ = false ∧ NRX sd z s f m num x y ch k w w'
section
variable {sd z num x y : Int} {s f ch k : Nat} {m : Bool} {w wr w1 : World}
theorem NR.mid (h : NR sd z s f m num x y ch k w wr) (hk : k < 4) : NRX sd z s f m num x y ch k w wr :=
  ⟨h.g, World.rowIs.congr h.u (fun i _ => by
    by_cases hi : i = k
    · subst hi
      rw [if_pos rfl]
      exact (at1_of (h.u.cell hk)).symm
    · rw [if_neg hi]), h.be⟩
theorem NRX.held (h : NRX sd z s f m num x y ch k w wr) (hk : k < 4) : NRC sd z s f m num x y ch k w wr :=
  ⟨h.g.cell 0, h.g.cell 1, by have := h.u.cell hk; rw [if_pos rfl] at this; exact this, h.u.frozen k, h⟩
theorem NRX.below (h : NRX sd z s f m num x y ch k w wr) (hk : k < 4) (hb : Below wr.heap.size wr w1) : NRX sd z s f m num x y ch k w w1 :=
  have h2 := rowIs_below h.u hb h.u.lt
  ⟨h.g.below hb h.g.lt, World.rowIs.congr h2 (fun i _ => by
    by_cases hi : i = k
    · subst hi
      rw [if_pos rfl, if_pos rfl]
      have h3 := h2.cell hk
      rw [if_pos rfl] at h3
      exact (at1_of h3).symm
    · rw [if_neg hi, if_neg hi]), below_to h.be hb⟩
theorem NRX.set (h : NRX sd z s f m num x y ch k w wr) (hk : k < 4) (v : Value) : NRX sd z s f m num x y ch k w (wr.setCell ⟨w.heap.size + 1, k, none⟩ v) :=
  have h2 := h.u.set k v
  ⟨h.g.far (by simp) _, World.rowIs.congr h2 (fun i _ => by
    by_cases hi : i = k
    · subst hi
      rw [if_pos rfl]
      have h3 := h2.cell hk
      simp only [if_true] at h3
      rw [at1_of h3]
      simp
    · simp [hi]), h.be.setCell (by simp) _⟩
theorem NRX.step (h : NRX sd z s f m num x y ch k w wr) : NR sd z s f m num x y ch (k + 1) w (wr.setCell ⟨w.heap.size + 1, k, none⟩ (.float .f32 (noiA sd z num x y ch k))) :=
  ⟨h.g.far (by simp) _, World.rowIs.congr (h.u.set k _) (fun i _ => by
      by_cases hi : i = k
      · subst hi; simp
      · by_cases h2 : i < k
        · simp [hi, h2, show i < k + 1 by omega]
        · simp [hi, h2, show ¬ i < k + 1 by omega]), h.be.setCell (by simp) _⟩
theorem NRX.stepv (h : NRX sd z s f m num x y ch k w wr) {v : Nat} (hv : noiA sd z num x y ch k = v) : NR sd z s f m num x y ch (k + 1) w (wr.setCell ⟨w.heap.size + 1, k, none⟩ (.float .f32 v)) := by
  subst hv
  exact h.step
theorem NRX.drew (h : NRX sd z s f m num x y ch k w wr) (hk : k < 4) : NRX sd z s f m num x y ch k w wr.drew := h.below hk (Below.refl _ _).drew
end
theorem NRC.on {sd z num x y : Int} {s f ch k : Nat} {m : Bool} {w wr w1 : World} (hb : Below wr.heap.size wr w1) (hk : k < 4) (h : NRC sd z s f m num x y ch k w wr) : NRC sd z s f m num x y ch k w w1 := NRX.held (h.2.2.2.2.below hk hb) hk
theorem NRC.set {sd z num x y : Int} {s f ch k : Nat} {m : Bool} {w wr : World} (hk : k < 4) (h : NRC sd z s f m num x y ch k w wr) (v : Value) : NRC sd z s f m num x y ch k w (wr.setCell ⟨w.heap.size + 1, k, none⟩ v) := NRX.held (h.2.2.2.2.set hk v) hk

set_option maxRecDepth 100000 in
set_option maxHeartbeats 4000000 in
theorem noise_poly (sd z num x y : Int) (s f ch0 : Nat) (w : World) (z1 : 1 ≤ z) (z2 : z ≤ 16) (x1 : -1048576 ≤ x) (x2 : x ≤ 1048576) (y1 : -1048576 ≤ y) (y2 : y ≤ 1048576) (hch : ch0 ≤ 3) :
    Calls Try.prog 70 #[grn sd z s f false, .int .i64 num, .int .i64 x, .int .i64 y, .int .i64 ch0] w fun e w' => ∃ b, e = .returned (.float .f32 b) ∧ cl b = noiC sd z num x y ch0 ∧ Below w.heap.size w w' := by
  have HZ : RowKit.Hid (NR sd z s f false num x y ch0 0 w ((w.alloc (.cells (grnA sd z s f false) 45)).alloc (.cells #[.float .f32 0, .float .f32 0, .float .f32 0, .float .f32 0] 46))) := by
    refine hid ⟨(Blk.new_at _ _ _ rfl).alloc _, ?_, ((Below.refl _ _).alloc (Nat.le_refl _) _).alloc (by simp) _⟩
    refine World.rowIs.congr (f := fun _ => .float .f32 0) ?_ (fun i _ => by simp)
    exact row4_of_blk (f := fun _ => .float .f32 0) (Blk.new_at _ _ _ (by simp))
  have HQX : RowKit.Hid (∀ wz, Calls Try.prog 116 #[.int .i64 x, .int .i64 z] wz fun e w' => e = .returned (.int .i64 (x / z)) ∧ wz = w') := hid fun wz => quotient_any x z wz z1 z2 x1 x2
  have HQY : RowKit.Hid (∀ wz, Calls Try.prog 116 #[.int .i64 y, .int .i64 z] wz fun e w' => e = .returned (.int .i64 (y / z)) ∧ wz = w') := hid fun wz => quotient_any y z wz z1 z2 y1 y2
  clear z1 z2 x1 x2 y1 y2
  go_enter Try.func70, Try.ntmps70
  go_wp2_with fail
  go_loopw [15] (fun i wr => ∃ k : Nat, k ≤ 4 ∧ i = .int .i64 k ∧ NR sd z s f false num x y ch0 k w wr) (fun i _ => 4 - (intOf i).toNat)
  case atStart => exact ⟨0, by omega, rfl, HZ.out⟩
  case round =>
    clear HZ
    obtain ⟨k, hk, rfl, hr⟩ := hrel
    have HR := hid hr
    clear hr
    by_cases hk4 : k < 4
    · have HH := hid (((HR.out.mid hk4).drew hk4).held hk4)
      have k1 : (k : Int) ≤ 3 := by omega
      have k3 : (0 : Int) ≤ (k : Int) := by omega
      have hw0 : IntKind.i64.wrap (k : Int) = (k : Int) := by rw [IntKind.wrap_i64]; omega
      have c1 : (ch0 : Int) ≤ 3 := by omega
      have hw1 : IntKind.i64.wrap (4 * (ch0 : Int) + k) = 4 * (ch0 : Int) + k := by rw [IntKind.wrap_i64]; omega
      have hw2 : IntKind.i64.wrap (4 * (ch0 : Int)) = 4 * (ch0 : Int) := by rw [IntKind.wrap_i64]; omega
      obtain ⟨hv, hhv⟩ : ∃ hv, hv = hashC (bits .xor .u32 sd (IntKind.u32.wrap num)) (x / z) (y / z) ((4 * ch0 + k : Nat) : Int) := ⟨_, rfl⟩
      have HNV : RowKit.Hid (noiA sd z num x y ch0 k = unitC hv) := hid (by rw [hhv]; rfl)
      have HHA : RowKit.Hid (∀ wz a, a = ((4 * ch0 + k : Nat) : Int) → Calls Try.prog 103 #[.int .u32 (bits .xor .u32 sd (IntKind.u32.wrap num)), .int .i64 (x / z), .int .i64 (y / z), .int .i64 a] wz fun e w' => e = .returned (.int .u32 hv) ∧ Below wz.heap.size wz w') := hid fun wz a ha => by
        rw [ha]
        have h := hashn_any (bits .xor .u32 sd (IntKind.u32.wrap num)) (x / z) (y / z) ((4 * ch0 + k : Nat) : Int) wz
        rw [← hhv] at h
        exact h
      clear hhv
      go_wp2_with fail
      go_region_held3 (fun w' => w'.cell? ⟨w.heap.size, 0, none⟩ = some (.int .u32 sd) ∧ w'.cell? ⟨w.heap.size, 1, none⟩ = some (.int .i64 z) ∧ w'.cell? ⟨w.heap.size + 1, k, none⟩ = some (at1 w' (w.heap.size + 1) k) ∧ w'.frozen? ⟨w.heap.size + 1, k, none⟩ = false ∧ NRX sd z s f false num x y ch0 k w w')
        (first | (with_reducible exact HH.out) | (with_reducible exact NRC.on (by assumption) hk4 (by assumption)) | (with_reducible exact NRC.set hk4 (by assumption) _) | (with_reducible exact NRC.set hk4 (NRX.held (by assumption) hk4) _) | (with_reducible assumption))
        (first
          | (go_at_call 116; with_reducible refine (HQX.out _).mono ?_; rintro e w' ⟨rfl, rfl⟩)
          | (go_at_call 116; with_reducible refine (HQY.out _).mono ?_; rintro e w' ⟨rfl, rfl⟩)
          | (go_at_call 103; with_reducible refine (HHA.out _ _ (by first | omega | (simp only [IntKind.wrap_i64]; omega))).mono ?_; rintro e w1 ⟨rfl, hb⟩; have HO1 := (NRC.on hb hk4 (by first | assumption | (go_split_ands; assumption))).2.2.2.2)
          | (go_at_call 102; with_reducible refine (unit_any _ _).mono ?_; rintro e w' ⟨rfl, rfl⟩))
      all_goals
        have HS := hid (NRX.stepv HO1 HNV.out)
        go_wp2_with fail
        go_roundw
        case rel =>
          exact ⟨k + 1, by omega, by go_num, HS.out⟩
        case measure => simp [intOf]; omega
    · obtain rfl : k = 4 := by omega
      have u0 := HR.out.u.cell (i := 0) (by omega)
      have u1 := HR.out.u.cell (i := 1) (by omega)
      have u2 := HR.out.u.cell (i := 2) (by omega)
      have u3 := HR.out.u.cell (i := 3) (by omega)
      simp at u0 u1 u2 u3
      obtain ⟨n0, h0⟩ : ∃ v, v = noiA sd z num x y ch0 0 := ⟨_, rfl⟩
      obtain ⟨n1, h1⟩ : ∃ v, v = noiA sd z num x y ch0 1 := ⟨_, rfl⟩
      obtain ⟨n2, h2⟩ : ∃ v, v = noiA sd z num x y ch0 2 := ⟨_, rfl⟩
      obtain ⟨n3, h3⟩ : ∃ v, v = noiA sd z num x y ch0 3 := ⟨_, rfl⟩
      have HC : RowKit.Hid (noiC sd z num x y ch0 = cop .sub .f32 (cop .mul .f32 (cop .add .f32 (cop .add .f32 n0 n1) (cop .add .f32 n2 n3)) 1056964608) 1065353216) := hid (by rw [h0, h1, h2, h3]; rfl)
      rw [← h0] at u0
      rw [← h1] at u1
      rw [← h2] at u2
      rw [← h3] at u3
      have HBE := hid HR.out.be
      clear h0 h1 h2 h3 HR HQX HQY
      go_wp2_with fail
      go_ret
      refine ⟨_, rfl, ?_, by first | exact HBE.out | exact below_drewN HBE.out _⟩
      rw [HC.out]
      exact (cnf (cnf (cnf (cnf rfl rfl) (cnf rfl rfl)) rfl) rfl).trans (cn_cop ..)

set_option maxRecDepth 100000 in
set_option maxHeartbeats 4000000 in
theorem noise_mono (sd z num x y : Int) (s f ch0 : Nat) (w : World) (z1 : 1 ≤ z) (z2 : z ≤ 16) (x1 : -1048576 ≤ x) (x2 : x ≤ 1048576) (y1 : -1048576 ≤ y) (y2 : y ≤ 1048576) :
    Calls Try.prog 70 #[grn sd z s f true, .int .i64 num, .int .i64 x, .int .i64 y, .int .i64 ch0] w fun e w' => ∃ b, e = .returned (.float .f32 b) ∧ cl b = noiC sd z num x y 0 ∧ Below w.heap.size w w' := by
  have HZ : RowKit.Hid (NR sd z s f true num x y 0 0 w ((w.alloc (.cells (grnA sd z s f true) 45)).alloc (.cells #[.float .f32 0, .float .f32 0, .float .f32 0, .float .f32 0] 46))) := by
    refine hid ⟨(Blk.new_at _ _ _ rfl).alloc _, ?_, ((Below.refl _ _).alloc (Nat.le_refl _) _).alloc (by simp) _⟩
    refine World.rowIs.congr (f := fun _ => .float .f32 0) ?_ (fun i _ => by simp)
    exact row4_of_blk (f := fun _ => .float .f32 0) (Blk.new_at _ _ _ (by simp))
  have HQX : RowKit.Hid (∀ wz, Calls Try.prog 116 #[.int .i64 x, .int .i64 z] wz fun e w' => e = .returned (.int .i64 (x / z)) ∧ wz = w') := hid fun wz => quotient_any x z wz z1 z2 x1 x2
  have HQY : RowKit.Hid (∀ wz, Calls Try.prog 116 #[.int .i64 y, .int .i64 z] wz fun e w' => e = .returned (.int .i64 (y / z)) ∧ wz = w') := hid fun wz => quotient_any y z wz z1 z2 y1 y2
  clear z1 z2 x1 x2 y1 y2
  go_enter Try.func70, Try.ntmps70
  go_wp2_with fail
  go_loopw [15] (fun i wr => ∃ k : Nat, k ≤ 4 ∧ i = .int .i64 k ∧ NR sd z s f true num x y 0 k w wr) (fun i _ => 4 - (intOf i).toNat)
  case atStart => exact ⟨0, by omega, rfl, HZ.out⟩
  case round =>
    clear HZ
    obtain ⟨k, hk, rfl, hr⟩ := hrel
    have HR := hid hr
    clear hr
    by_cases hk4 : k < 4
    · have HH := hid (((HR.out.mid hk4).drew hk4).held hk4)
      have k1 : (k : Int) ≤ 3 := by omega
      have k3 : (0 : Int) ≤ (k : Int) := by omega
      have hw0 : IntKind.i64.wrap (k : Int) = (k : Int) := by rw [IntKind.wrap_i64]; omega
      obtain ⟨hv, hhv⟩ : ∃ hv, hv = hashC (bits .xor .u32 sd (IntKind.u32.wrap num)) (x / z) (y / z) ((4 * 0 + k : Nat) : Int) := ⟨_, rfl⟩
      have HNV : RowKit.Hid (noiA sd z num x y 0 k = unitC hv) := hid (by rw [hhv]; rfl)
      have HHA : RowKit.Hid (∀ wz a, a = ((4 * 0 + k : Nat) : Int) → Calls Try.prog 103 #[.int .u32 (bits .xor .u32 sd (IntKind.u32.wrap num)), .int .i64 (x / z), .int .i64 (y / z), .int .i64 a] wz fun e w' => e = .returned (.int .u32 hv) ∧ Below wz.heap.size wz w') := hid fun wz a ha => by
        rw [ha]
        have h := hashn_any (bits .xor .u32 sd (IntKind.u32.wrap num)) (x / z) (y / z) ((4 * 0 + k : Nat) : Int) wz
        rw [← hhv] at h
        exact h
      clear hhv
      go_wp2_with fail
      go_region_held3 (fun w' => w'.cell? ⟨w.heap.size, 0, none⟩ = some (.int .u32 sd) ∧ w'.cell? ⟨w.heap.size, 1, none⟩ = some (.int .i64 z) ∧ w'.cell? ⟨w.heap.size + 1, k, none⟩ = some (at1 w' (w.heap.size + 1) k) ∧ w'.frozen? ⟨w.heap.size + 1, k, none⟩ = false ∧ NRX sd z s f true num x y 0 k w w')
        (first | (with_reducible exact HH.out) | (with_reducible exact NRC.on (by assumption) hk4 (by assumption)) | (with_reducible exact NRC.set hk4 (by assumption) _) | (with_reducible exact NRC.set hk4 (NRX.held (by assumption) hk4) _) | (with_reducible assumption))
        (first
          | (go_at_call 116; with_reducible refine (HQX.out _).mono ?_; rintro e w' ⟨rfl, rfl⟩)
          | (go_at_call 116; with_reducible refine (HQY.out _).mono ?_; rintro e w' ⟨rfl, rfl⟩)
          | (go_at_call 103; with_reducible refine (HHA.out _ _ (by first | omega | (simp only [IntKind.wrap_i64]; omega))).mono ?_; rintro e w1 ⟨rfl, hb⟩; have HO1 := (NRC.on hb hk4 (by first | assumption | (go_split_ands; assumption))).2.2.2.2)
          | (go_at_call 102; with_reducible refine (unit_any _ _).mono ?_; rintro e w' ⟨rfl, rfl⟩))
      all_goals
        have HS := hid (NRX.stepv HO1 HNV.out)
        go_wp2_with fail
        go_roundw
        case rel =>
          exact ⟨k + 1, by omega, by go_num, HS.out⟩
        case measure => simp [intOf]; omega
    · obtain rfl : k = 4 := by omega
      have u0 := HR.out.u.cell (i := 0) (by omega)
      have u1 := HR.out.u.cell (i := 1) (by omega)
      have u2 := HR.out.u.cell (i := 2) (by omega)
      have u3 := HR.out.u.cell (i := 3) (by omega)
      simp at u0 u1 u2 u3
      obtain ⟨n0, h0⟩ : ∃ v, v = noiA sd z num x y 0 0 := ⟨_, rfl⟩
      obtain ⟨n1, h1⟩ : ∃ v, v = noiA sd z num x y 0 1 := ⟨_, rfl⟩
      obtain ⟨n2, h2⟩ : ∃ v, v = noiA sd z num x y 0 2 := ⟨_, rfl⟩
      obtain ⟨n3, h3⟩ : ∃ v, v = noiA sd z num x y 0 3 := ⟨_, rfl⟩
      have HC : RowKit.Hid (noiC sd z num x y 0 = cop .sub .f32 (cop .mul .f32 (cop .add .f32 (cop .add .f32 n0 n1) (cop .add .f32 n2 n3)) 1056964608) 1065353216) := hid (by rw [h0, h1, h2, h3]; rfl)
      rw [← h0] at u0
      rw [← h1] at u1
      rw [← h2] at u2
      rw [← h3] at u3
      have HBE := hid HR.out.be
      clear h0 h1 h2 h3 HR HQX HQY
      go_wp2_with fail
      go_ret
      refine ⟨_, rfl, ?_, by first | exact HBE.out | exact below_drewN HBE.out _⟩
      rw [HC.out]
      exact (cnf (cnf (cnf (cnf rfl rfl) (cnf rfl rfl)) rfl) rfl).trans (cn_cop ..)

end Go.Proofs.Ythoiiccecneefaa
