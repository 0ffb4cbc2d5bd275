/-
  Tests for numbers; pixels alike; the colours of a pixel changed by a function value.
-/
import Derived.Test.YthoiiccecneefaaQOff
import Derived.Test.YthoiiccecneefaaFPix

namespace Go.Proofs.Ythoiiccecneefaa
open Go.RowKit Go.Shelf
open Ieee (Datum Format signed)
attribute [local go_sem] run_store_float

theorem and31u0 (b : Nat) (h : b < 4294967296) : bits BinOp.and IntKind.u32 (b : Int) 2147483647 = ((b % 2147483648 : Nat) : Int) := by
  have := bits_mask .u32 32 (by decide) (fun n h0 h1 => by rw [IntKind.wrap_u32]; omega) 31 (by decide) b (by omega) (by omega)
  rw [show (2 : Int) ^ 31 - 1 = 2147483647 from rfl] at this
  rw [this]; omega
theorem and31u (b : Nat) : bits BinOp.and IntKind.u32 (b : Int) 2147483647 = ((b % 2147483648 : Nat) : Int) := by
  have e : BitVec.ofInt 32 (b : Int) = BitVec.ofInt 32 ((b % 4294967296 : Nat) : Int) := by
    rw [BitVec.ofInt_natCast, BitVec.ofInt_natCast]
    apply BitVec.eq_of_toNat_eq
    simp
  have e2 : bits BinOp.and IntKind.u32 (b : Int) 2147483647 = bits BinOp.and IntKind.u32 ((b % 4294967296 : Nat) : Int) 2147483647 := by
    show IntKind.u32.wrap ((BitVec.ofInt 32 (b : Int) &&& BitVec.ofInt 32 2147483647).toNat : Int) = IntKind.u32.wrap ((BitVec.ofInt 32 ((b % 4294967296 : Nat) : Int) &&& BitVec.ofInt 32 2147483647).toNat : Int)
    rw [e]
  rw [e2, and31u0 _ (Nat.mod_lt _ (by decide))]
  omega

def kindC (r : Nat) : Int := if r = 0 then 0 else if r < 8388608 then 1 else if r < 2139095040 then 2 else if r = 2139095040 then 3 else 4

set_option maxRecDepth 100000 in
theorem kind_any (b : Nat) (w : World) : Calls Try.prog 118 #[.float .f32 b] w fun e w' => e = .returned (.int .i64 (kindC (b % 2147483648))) ∧ w = w' := by
  have ha := and31u b
  generalize hr : b % 2147483648 = r at *
  clear hr
  by_cases h0 : r = 0
  · subst h0
    go_enter Try.func118, Try.ntmps118
    go_wp2
    go_ret
    exact ⟨rfl, rfl⟩
  · have t0 : ((r : Int) == 0) = false := by rw [beq_eq_false_iff_ne]; omega
    by_cases h1 : r < 8388608
    · have hq : kindC r = 1 := by unfold kindC; rw [if_neg h0, if_pos h1]
      have HQ := hid hq; clear hq h0
      have t1 : (r : Int) < 8388608 := by omega
      go_enter Try.func118, Try.ntmps118
      go_wp2
      go_ret
      exact ⟨ret_int HQ.out.symm, rfl⟩
    · have t1 : ¬ (r : Int) < 8388608 := by omega
      by_cases h2 : r < 2139095040
      · have hq : kindC r = 2 := by unfold kindC; rw [if_neg h0, if_neg h1, if_pos h2]
        have HQ := hid hq; clear hq h0
        have t2 : (r : Int) < 2139095040 := by omega
        go_enter Try.func118, Try.ntmps118
        go_wp2
        go_ret
        exact ⟨ret_int HQ.out.symm, rfl⟩
      · have t2 : ¬ (r : Int) < 2139095040 := by omega
        by_cases h3 : r = 2139095040
        · subst h3
          go_enter Try.func118, Try.ntmps118
          go_wp2
          go_ret
          exact ⟨rfl, rfl⟩
        · have hq : kindC r = 4 := by unfold kindC; rw [if_neg h0, if_neg h1, if_neg h2, if_neg h3]
          have HQ := hid hq; clear hq h0
          have t3 : ((r : Int) == 2139095040) = false := by rw [beq_eq_false_iff_ne]; omega
          clear h3
          go_enter Try.func118, Try.ntmps118
          go_wp2
          go_ret
          exact ⟨ret_int HQ.out.symm, rfl⟩

/-- Is it a number? -/
def fin (b : Nat) : Bool := decide (b % 2147483648 < 2139095040)

theorem order_c0 (x : Nat) : FloatKind.f32.format.order (cn .f32 x) 0 = FloatKind.f32.format.order x 0 := by
  have h : cn .f32 0 = 0 := by decide +kernel
  have := order_cn .f32 x 0
  rw [h] at this
  exact this
/-- A number has a value. -/
theorem fin_fv {b : Nat} (h : fin b = true) : ∃ a, Fv .f32 b a := by
  unfold fin at h
  rw [decide_eq_true_eq] at h
  have hS : FloatKind.f32.format.signWeight = 2147483648 := rfl
  have hB : FloatKind.f32.format.binade = 8388608 := rfl
  have hI : FloatKind.f32.format.infRung = 2139095040 := rfl
  have hr : ∃ s m p, FloatKind.f32.format.read b = .number s m p := by
    unfold Ieee.Format.read
    dsimp only
    rw [hS, hB, hI]
    split
    · exact ⟨_, _, _, rfl⟩
    · exact ⟨_, _, _, rfl⟩
  obtain ⟨s, m, p, hr⟩ := hr
  exact ⟨_, s, m, p, hr, rfl⟩
theorem fv_fin {b : Nat} {a : Rat} (h : Fv .f32 b a) : fin b = true := by
  obtain ⟨s, m, p, hr, _⟩ := h
  unfold fin
  rw [decide_eq_true_eq]
  have hS : FloatKind.f32.format.signWeight = 2147483648 := rfl
  have hB : FloatKind.f32.format.binade = 8388608 := rfl
  have hI : FloatKind.f32.format.infRung = 2139095040 := rfl
  unfold Ieee.Format.read at hr
  dsimp only at hr
  rw [hS, hB, hI] at hr
  by_cases h1 : b % 2147483648 < 8388608
  · omega
  · rw [if_neg h1] at hr
    by_cases h2 : b % 2147483648 < 2139095040
    · exact h2
    · rw [if_neg h2] at hr
      split at hr <;> cases hr
theorem fin_not_nan {b : Nat} (h : fin b = true) : isN .f32 b = false := (fin_fv h).elim fun _ h => h.not_nan

/-- What is left of a number less itself: 0; of another single: a NaN. -/
theorem sub_self (v : Nat) : (FloatKind.f32.format.order (cop .sub .f32 v v) 0 == some .eq) = fin v := by
  by_cases h : fin v = true
  · obtain ⟨a, ha⟩ := fin_fv h
    have hp := pw_pos 127
    obtain ⟨q, hq, hn⟩ := fsub ha ha (by grind) (by grind)
    have h0 : q = 0 := by
      have h1 := hn.2.1 (by grind)
      have h2 := hn.2.2 (by grind)
      grind
    subst h0
    have hz : Fv .f32 0 0 := ⟨false, 0, -149, by decide +kernel, by rw [dv_zero]⟩
    rw [forder hq hz, h]; simp
  · have h' : fin v = false := by simpa using h
    rw [h']
    have hnone : floatBits .sub .f32 v v = none := by
      unfold floatBits Ieee.Format.sub
      cases hr : FloatKind.f32.format.read v with
      | nan s t => simp [Ieee.Datum.sum]
      | infinity s => cases s <;> simp [Ieee.Datum.sum, Ieee.Datum.opposite]
      | number s m p => rw [fv_fin ⟨s, m, p, hr, rfl⟩] at h'; cases h'
    have : cop .sub .f32 v v = qnan .f32 := by simp [cop, hnone]
    rw [this, order_nanl _ _ _ (isN_qnan _)]; rfl

theorem isNum_any (v : Nat) (w : World) : Calls Try.prog 35 #[.float .f32 v] w fun e w' => e = .returned (.bool (fin v)) ∧ ∃ n, w' = w.drewN n := by
  have h1 : ∀ w, (FloatKind.f32.format.order (fop .sub .f32 v v w) 0 == some .eq) = fin v := fun w => by
    rw [← order_c0, cn_fop, ← sub_self]
    congr 2
    unfold cop
    rw [floatBits_cn]
  go_enter Try.func35, Try.ntmps35
  go_wp2_with fail
  go_ret
  exact ⟨rfl, _, rfl⟩
/-- Do the first n hold? -/
def allB (p : Nat → Bool) : Nat → Bool
  | 0 => true
  | n + 1 => allB p n && p n
theorem allB_no {p : Nat → Bool} {k : Nat} (h : p k = false) : ∀ n, k < n → allB p n = false
  | 0, hk => by omega
  | n + 1, hk => by
    unfold allB
    by_cases e : k = n
    · subst e; rw [h]; simp
    · rw [allB_no h n (by omega)]; simp
theorem allB_step {p : Nat → Bool} {k : Nat} (h : allB p k = true) (h2 : p k = true) : allB p (k + 1) = true := by unfold allB; rw [h, h2]; rfl
theorem allB_at {p : Nat → Bool} : ∀ {n}, allB p n = true → ∀ k, k < n → p k = true
  | 0, _, k, hk => by omega
  | n + 1, h, k, hk => by
    unfold allB at h
    rw [Bool.and_eq_true] at h
    by_cases e : k = n
    · subst e; exact h.2
    · exact allB_at h.1 k (by omega)
theorem allB_of {p : Nat → Bool} : ∀ {n}, (∀ k, k < n → p k = true) → allB p n = true
  | 0, _ => rfl
  | _ + 1, h => allB_step (allB_of fun k hk => h k (by omega)) (h _ (by omega))

theorem fin_kind (b : Nat) : fin b = decide (kindC (b % 2147483648) < 3) := by
  unfold fin kindC
  generalize b % 2147483648 = r
  split
  · simp; omega
  · split
    · simp; omega
    · split
      · simp; omega
      · split <;> simp <;> omega

set_option maxHeartbeats 1000000 in
theorem areNumbers_any (b off n c : Nat) (F : Nat → Nat) (w : World) (hn : n ≤ 4096) (hr : Rd w b off n F) :
    Calls Try.prog 74 #[.slice (some ⟨b, off, none⟩) n c] w fun e w' => e = .returned (.bool (allB (fun i => fin (F i)) n)) ∧ w = w' := by
  have HR := hid hr
  clear hr
  go_enter Try.func74, Try.ntmps74
  go_wp2
  go_loop [7] (fun i => ∃ k : Nat, k ≤ n ∧ i = .int .i64 k ∧ allB (fun i => fin (F i)) k = true) (fun i => n - (intOf i).toNat)
  case atStart => exact ⟨0, Nat.zero_le _, rfl, rfl⟩
  case round =>
    obtain ⟨k, hk, rfl, hf⟩ := hrel
    have HF := hid hf
    clear hf
    by_cases hlt : k < n
    · have hc := HR.out k hlt
      have e := fin_kind (F k)
      by_cases h3 : kindC (F k % 2147483648) < 3
      · have HE : RowKit.Hid (fin (F k) = true) := hid (by rw [e]; simpa using h3)
        clear e
        have h3' : ¬ 3 ≤ kindC (F k % 2147483648) := by omega
        clear h3
        go_wp2_with (go_at_call 118; refine (kind_any _ _).mono ?_; rintro e w' ⟨rfl, rfl⟩)
        go_round
        case rel => exact ⟨k + 1, by omega, by go_num, allB_step HF.out HE.out⟩
        case measure => simp [intOf]; omega
      · have HE : RowKit.Hid (fin (F k) = false) := hid (by rw [e]; simpa using h3)
        clear e
        have h3' : 3 ≤ kindC (F k % 2147483648) := by omega
        clear h3
        go_wp2_with (go_at_call 118; refine (kind_any _ _).mono ?_; rintro e w' ⟨rfl, rfl⟩)
        go_ret
        exact ⟨ret_bool (allB_no (p := fun i => fin (F i)) HE.out n hlt).symm, rfl⟩
    · obtain rfl : k = n := by omega
      go_wp2
      go_ret
      exact ⟨ret_bool HF.out.symm, rfl⟩

set_option maxRecDepth 100000 in
set_option maxHeartbeats 1000000 in
/-- Two pixels of the same bits. -/
theorem samePix_any (f g : Nat → Nat) (h : ∀ k, k < 4 → f k = g k) (w : World) : Calls Try.prog 24 #[pix f, pix g] w fun e w' => e = .returned (.bool true) ∧ Below w.heap.size w w' := by
  have e : pix f = pix g := by simp only [pix]; rw [h 0 (by omega), h 1 (by omega), h 2 (by omega), h 3 (by omega)]
  rw [e, pix_cells]
  clear e h
  go_enter Try.func24, Try.ntmps24
  go_wp2_with (go_at_call 76; refine (same_yes _ _ rfl _).mono ?_; rintro e w' ⟨rfl, rfl⟩)
  go_ret
  exact ⟨rfl, ((Below.refl _ _).alloc (Nat.le_refl _) _).alloc (by simp) _⟩


/-- Is v from lo to hi? -/
def wiB (v lo hi : Nat) : Bool := (FloatKind.f32.format.order v lo == some .gt || FloatKind.f32.format.order v lo == some .eq) && (FloatKind.f32.format.order v hi == some .lt || FloatKind.f32.format.order v hi == some .eq)
theorem isWithin_any (v lo hi : Nat) (w : World) : Calls Try.prog 75 #[.float .f32 v, .float .f32 lo, .float .f32 hi] w fun e w' => e = .returned (.bool (wiB v lo hi)) ∧ w = w' := by
  cases h1 : (FloatKind.f32.format.order v lo == some .gt || FloatKind.f32.format.order v lo == some .eq) <;> cases h2 : (FloatKind.f32.format.order v hi == some .lt || FloatKind.f32.format.order v hi == some .eq) <;>
    (have HQ : RowKit.Hid (wiB v lo hi = ((FloatKind.f32.format.order v lo == some .gt || FloatKind.f32.format.order v lo == some .eq) && (FloatKind.f32.format.order v hi == some .lt || FloatKind.f32.format.order v hi == some .eq))) := hid rfl
     go_enter Try.func75, Try.ntmps75
     go_wp2
     go_ret
     exact ⟨ret_bool (by rw [HQ.out, h1, h2]; rfl), rfl⟩)

/-- All is as it was, but for the blocks of S and for what is new. -/
structure KB (S : Nat → Prop) (w w' : World) : Prop where
  os : w'.os = w.os
  tape : w'.tape = w.tape
  output : w'.output = w.output
  size : w.heap.size ≤ w'.heap.size
  block : ∀ k, k < w.heap.size → ¬ S k → w'.heap[k]? = w.heap[k]?
theorem KB.of_below {S : Nat → Prop} {w w' : World} (h : Below w.heap.size w w') : KB S w w' := ⟨h.os, h.tape, h.output, h.size, fun k hk _ => h.block k hk⟩
theorem KB.below {w w' : World} (h : KB (fun _ => False) w w') : Below w.heap.size w w' := ⟨h.os, h.tape, h.output, h.size, fun k hk => h.block k hk (fun h => h)⟩
theorem KB.trans {S : Nat → Prop} {w w1 w2 : World} (h : KB S w w1) (h' : KB S w1 w2) : KB S w w2 :=
  ⟨h'.os.trans h.os, h'.tape.trans h.tape, h'.output.trans h.output, Nat.le_trans h.size h'.size, fun k hk hc => (h'.block k (Nat.lt_of_lt_of_le hk h.size) hc).trans (h.block k hk hc)⟩
theorem KB.refl (S : Nat → Prop) (w : World) : KB S w w := .of_below (Below.refl _ _)
theorem KB.set_new {S : Nat → Prop} {w w1 : World} (h : KB S w w1) {p : Addr} (hp : w.heap.size ≤ p.block) (u : Value) : KB S w (w1.setCell p u) :=
  ⟨h.os, h.tape, h.output, by simpa [World.setCell] using h.size, fun k hk hc => (Below.heap_setCell w1 p u k (by omega)).trans (h.block k hk hc)⟩
theorem Blk.kb {w w' : World} {g : Nat} {t : TypeId} {cs : Array Value} {S : Nat → Prop} (h : Blk w g t cs) (hb : KB S w w') (hc : ¬ S g) : Blk w' g t cs := (hb.block g h.lt hc).trans h

abbrev pixA (f : Nat → Nat) : Array Value := #[.float .f32 (f 0), .float .f32 (f 1), .float .f32 (f 2), .float .f32 (f 3)]
abbrev zpix4 : Array Value := #[.float .f32 0, .float .f32 0, .float .f32 0, .float .f32 0]

/-- What a pixel of new colours has. -/
def col (f g : Nat → Nat) (k : Nat) : Nat := if k < 3 then g k else cl (f k)

structure CRel (S : Nat → Prop) (I : Nat → World → Prop) (f g : Nat → Nat) (w : World) (k : Nat) (wr : World) : Prop where
  b0 : Blk wr w.heap.size 47 (pixA fun j => if j < k then col f g j else f j)
  b1 : Blk wr (w.heap.size + 1) 47 zpix4
  be : KB S w wr
  inv : I (min k 3) wr

set_option maxRecDepth 100000 in
set_option maxHeartbeats 2000000 in
theorem coloured_inv (K : FuncId) (caps : Array Value) (eK : ∀ (args : Array Value) (w : World), (callFunc K args).run Try.prog w = .ok (.enter K args) w) (f g : Nat → Nat) (S : Nat → Prop) (I : Nat → World → Prop) (w : World)
    (hc : ∀ k, S k → k < w.heap.size) (hI0 : ∀ w1, Below w.heap.size w w1 → I 0 w1) (hIs : ∀ j w1 w2, w.heap.size ≤ w1.heap.size → I j w1 → Below w.heap.size w1 w2 → I j w2)
    (hG : ∀ (k : Nat) (w1 : World), k < 3 → KB S w w1 → I k w1 → Calls Try.prog K (#[.int .i64 k, .float .f32 (f k)] ++ caps) w1 fun e w2 => ∃ v, e = .returned (.float .f32 v) ∧ cl v = g k ∧ KB S w1 w2 ∧ I (k + 1) w2) :
    Calls Try.prog 68 #[pix f, .func (.func K) #[] caps] w fun e w' => e = .returned (pix (col f g)) ∧ KB S w w' ∧ I 3 w' := by
  have HG := hid hG
  have HC := hid hc
  have HIS := hid hIs
  have hz : CRel S I f g w 0 ((w.alloc (.cells (pixA f) 47)).alloc (.cells zpix4 47)) :=
    ⟨(Blk.new_at _ _ _ rfl).alloc _, Blk.new_at _ _ _ (by simp), .of_below (((Below.refl _ _).alloc (Nat.le_refl _) _).alloc (by simp) _), hI0 _ (((Below.refl _ _).alloc (Nat.le_refl _) _).alloc (by simp) _)⟩
  have HZ := hid hz
  have c0 := hz.b0.cell 0
  have c1 := hz.b0.cell 1
  have c2 := hz.b0.cell 2
  have c3 := hz.b0.cell 3
  simp at c0 c1 c2 c3
  clear hG hc hI0 hIs hz
  rw [pix_cells f]
  go_enter Try.func68, Try.ntmps68
  go_wp2_with fail
  go_loopw [8] (fun i wr => ∃ k : Nat, k ≤ 4 ∧ i = .int .i64 k ∧ CRel S I f g w k wr) (fun i _ => 4 - (intOf i).toNat)
  case atStart => exact ⟨0, by omega, rfl, HZ.out⟩
  case round =>
    clear HZ c0 c1 c2 c3
    obtain ⟨k, hk, rfl, hrel⟩ := hrel
    have HR := hid hrel
    by_cases hlt : k < 4
    · have hi := run_index_pix f k hlt
      have k1 : (0 : Int) ≤ (k : Int) := by omega
      have k2 : (k : Int) < 4 := by omega
      have ne0 : ¬ S w.heap.size := fun e => by have := HC.out _ e; omega
      have ne1 : ¬ S (w.heap.size + 1) := fun e => by have := HC.out _ e; omega
      by_cases h3 : k < 3
      · have hmin : min k 3 = k := by omega
        have hcall := HG.out k wr h3 hrel.be (by have := hrel.inv; rw [hmin] at this; exact this)
        have HCL := hid hcall
        clear hcall hrel
        go_wp2_with fail
        refine HCL.out.mono ?_
        rintro e w1 ⟨v, rfl, hv, hb1, hi1⟩
        have HV := hid hv
        have hb0 := HR.out.b0.kb hb1 ne0
        have hbe := HR.out.be.trans hb1
        have HB0 := hid hb0
        have HB1 := hid (HR.out.b1.kb hb1 ne1)
        have HBE := hid hbe
        have HI := hid hi1
        have q1 := hb0.lt
        have q2 := hb0.frozen k
        have q3 := hb0.cell k
        have q4 : w1.cell? ⟨w.heap.size, k, none⟩ = some (.float .f32 (f k)) := by
          rw [q3]
          have hk4 : k = 0 ∨ k = 1 ∨ k = 2 := by omega
          rcases hk4 with rfl | rfl | rfl <;> simp
        clear q3 hb0 hbe hb1 hi1 hv HCL HR
        go_wp2_with (go_at_call 100; refine (clean_any _ _).mono ?_; rintro e w' ⟨rfl, rfl⟩)
        go_roundw
        case rel =>

          refine ⟨k + 1, by omega, by go_num, ?_, HB1.out.far (by simp) _, HBE.out.set_new (by simp) _, ?_⟩
          · rw [HV.out]
            have := HB0.out.set_ k (.float .f32 (g k))
            have hk4 : k = 0 ∨ k = 1 ∨ k = 2 := by omega
            rcases hk4 with rfl | rfl | rfl <;> simpa [col, pixA] using this
          · have hmin2 : min (k + 1) 3 = k + 1 := by omega
            rw [hmin2]
            exact HIS.out _ _ _ HBE.out.size HI.out ((Below.refl _ _).setCell (by simp) _)
        case measure => simp [intOf]; omega
      · have hk3 : k = 3 := by omega
        have k3 : ¬ (k : Int) < 3 := by omega
        have q1 := hrel.b0.lt
        have q2 := hrel.b0.frozen k
        have q4 : wr.cell? ⟨w.heap.size, k, none⟩ = some (.float .f32 (f k)) := by
          rw [hrel.b0.cell k]
          subst hk3
          simp
        have HK3 := hid hk3
        clear hrel hk3 h3
        go_wp2_with (go_at_call 100; refine (clean_any _ _).mono ?_; rintro e w' ⟨rfl, rfl⟩)
        go_roundw
        case rel =>
          refine ⟨k + 1, by omega, by go_num, ?_, HR.out.b1.far (by simp) _, HR.out.be.set_new (by simp) _, ?_⟩
          · have := HR.out.b0.set_ k (.float .f32 (cl (f k)))
            have hk3 := HK3.out
            subst hk3
            simpa [col, pixA] using this
          · have hmin : min (k + 1) 3 = min k 3 := by have := HK3.out; omega
            rw [hmin]
            exact HIS.out _ _ _ HR.out.be.size HR.out.inv ((Below.refl _ _).setCell (by simp) _)
        case measure => simp [intOf]; omega
    · obtain rfl : k = 4 := by omega
      have b0 : Blk wr w.heap.size 47 (pixA (col f g)) := hrel.b0
      have e0 := b0.cell 0
      have e1 := b0.cell 1
      have e2 := b0.cell 2
      have e3 := b0.cell 3
      have z0 := hrel.b1.cell 0
      have z1 := hrel.b1.cell 1
      have z2 := hrel.b1.cell 2
      have z3 := hrel.b1.cell 3
      have fz := fun i => hrel.b1.frozen i
      simp at e0 e1 e2 e3 z0 z1 z2 z3
      clear hrel b0
      go_wp2_with fail
      have hblk := HR.out.b1.set4 (.float .f32 (col f g 0)) (.float .f32 (col f g 1)) (.float .f32 (col f g 2)) (.float .f32 (col f g 3))
      refine bodyPost_ret (v := pix (col f g)) (results_cell_row rfl _ _ _ _ _ _ _ rfl hblk Try.underlying47 rfl (by kernel_rfl)) rfl ⟨rfl, (((HR.out.be.set_new (by simp) _).set_new (by simp) _).set_new (by simp) _).set_new (by simp) _, ?_⟩
      exact HIS.out _ _ _ HR.out.be.size HR.out.inv (((((Below.refl _ _).setCell (by simp) _).setCell (by simp) _).setCell (by simp) _).setCell (by simp) _)

/-- The same, where the function value turns nothing. -/
theorem coloured_any (K : FuncId) (caps : Array Value) (eK : ∀ (args : Array Value) (w : World), (callFunc K args).run Try.prog w = .ok (.enter K args) w) (f g : Nat → Nat) (w : World)
    (hG : ∀ (k : Nat) (w1 : World), k < 3 → Below w.heap.size w w1 → Calls Try.prog K (#[.int .i64 k, .float .f32 (f k)] ++ caps) w1 (Gave w1 (g k))) :
    Calls Try.prog 68 #[pix f, .func (.func K) #[] caps] w fun e w' => e = .returned (pix (col f g)) ∧ Below w.heap.size w w' :=
  (coloured_inv K caps eK f g (fun _ => False) (fun _ _ => True) w (fun _ e => e.elim) (fun _ _ => trivial) (fun _ _ _ _ _ _ => trivial)
    (fun k w1 hk hb _ => (hG k w1 hk hb.below).mono fun _ _ ⟨v, he, hv, hb2⟩ => ⟨v, he, hv, .of_below hb2, trivial⟩)).mono fun _ _ ⟨he, hb, _⟩ => ⟨he, hb.below⟩
end Go.Proofs.Ythoiiccecneefaa
