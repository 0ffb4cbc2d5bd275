/-
  The library's stable sort at three integers, over any comparison that only reads.
-/
import Derived.Test.YthnbfllhmjpbjaaKLeaf
import Derived.BigRegion
import Derived.Deep.RegionLaw
namespace Go.Proofs.Ythnbfllhmjpbjaa
open Go.RowKit

/-- Block b alone may have changed, in its cells' values; draws aside. -/
structure Sort1 (b : Nat) (w w' : World) : Prop where
  os : w'.os = w.os
  tape : w'.tape = w.tape
  out : w'.output = w.output
  size : w'.heap.size = w.heap.size
  other : ∀ i, i ≠ b → w'.heap[i]? = w.heap[i]?
theorem sort1_refl (b : Nat) (w : World) : Sort1 b w w := ⟨rfl, rfl, rfl, rfl, fun _ _ => rfl⟩
theorem sort1_trans {b : Nat} {w w' w'' : World} (h : Sort1 b w w') (g : Sort1 b w' w'') : Sort1 b w w'' :=
  ⟨g.os.trans h.os, g.tape.trans h.tape, g.out.trans h.out, g.size.trans h.size, fun i hi => (g.other i hi).trans (h.other i hi)⟩
theorem sort1_drew {b : Nat} {w w' : World} (h : Sort1 b w w') : Sort1 b w w'.drew := ⟨h.os, h.tape, h.out, h.size, h.other⟩
theorem sort1_drewN {b : Nat} {w w' : World} (h : Sort1 b w w') (n : Nat) : Sort1 b w (w'.drewN n) := ⟨h.os, h.tape, h.out, h.size, h.other⟩
theorem sort1_set {b : Nat} {w w' : World} (h : Sort1 b w w') (o : Nat) (v : Value) : Sort1 b w (w'.setCell ⟨b, o, none⟩ v) := by
  refine ⟨h.os, h.tape, h.out, ?_, ?_⟩
  · rw [← h.size]; simp [World.setCell]
  · intro i hi
    rw [← h.other i hi]
    simp only [World.setCell, Array.getElem?_modify]
    rw [if_neg (fun e => hi e.symm)]
theorem Sort1.below {b B : Nat} {w w' : World} (h : Sort1 b w w') (hB : B ≤ b) : Below B w w' :=
  ⟨h.os, h.tape, h.out, Nat.le_of_eq h.size.symm, fun i hi => h.other i (by omega)⟩

/-- Block b holds three integers. -/
def Ax (w : World) (b : Nat) (d : Nat → Nat) : Prop := Blk w b 94 #[.int .i64 (d 0 : Nat), .int .i64 (d 1 : Nat), .int .i64 (d 2 : Nat)]
def swp (d : Nat → Nat) (a b : Nat) : Nat → Nat := fun x => if x = a then d b else if x = b then d a else d x
theorem Ax.cell {w : World} {b : Nat} {d : Nat → Nat} (h : Ax w b d) (i : Nat) (hi : i < 3) : w.cell? ⟨b, i, none⟩ = some (.int .i64 (d i : Nat)) := by
  have := Blk.cell h i
  have h3 : i = 0 ∨ i = 1 ∨ i = 2 := by omega
  rcases h3 with rfl | rfl | rfl <;> simpa using this
theorem Ax.open_ {w : World} {b : Nat} {d : Nat → Nat} (h : Ax w b d) (i : Nat) : w.frozen? ⟨b, i, none⟩ = false := Blk.frozen h i
theorem Ax.drewN {w : World} {b : Nat} {d : Nat → Nat} (h : Ax w b d) (n : Nat) : Ax (w.drewN n) b d := h
theorem Ax.drew {w : World} {b : Nat} {d : Nat → Nat} (h : Ax w b d) : Ax w.drew b d := h
theorem Ax.swap {w : World} {b : Nat} {d : Nat → Nat} (h : Ax w b d) (i j : Nat) (hi : i < 3) (hj : j < 3) (hij : i ≠ j) :
    Ax ((w.setCell ⟨b, i, none⟩ (.int .i64 (d j : Nat))).setCell ⟨b, j, none⟩ (.int .i64 (d i : Nat))) b (swp d i j) := by
  have := (Blk.set_ h i (.int .i64 (d j : Nat))).set_ j (.int .i64 (d i : Nat))
  unfold Ax swp
  have h1 : i = 0 ∨ i = 1 ∨ i = 2 := by omega
  have h2 : j = 0 ∨ j = 1 ∨ j = 2 := by omega
  rcases h1 with rfl | rfl | rfl <;> rcases h2 with rfl | rfl | rfl <;> first | exact absurd rfl hij | simpa using this

/-- One element goes down as long as g says so. -/
def insF (g : Nat → Nat → Bool) : Nat → (Nat → Nat) → (Nat → Nat)
  | 0, e => e
  | j + 1, e => if g (e (j + 1)) (e j) = true then insF g j (swp e (j + 1) j) else e
/-- The sort, as far as the element i. -/
def srtF (g : Nat → Nat → Bool) (d : Nat → Nat) : Nat → (Nat → Nat)
  | 0 => d
  | i + 1 => insF g (i + 1) (srtF g d i)

theorem swp_lt {d : Nat → Nat} {a b : Nat} (h : ∀ x, x < 3 → d x < 3) (ha : a < 3) (hb : b < 3) : ∀ x, x < 3 → swp d a b x < 3 := fun x hx => by
  unfold swp
  split
  · exact h b hb
  · split
    · exact h a ha
    · exact h x hx

/-- The comparison's contract: it only reads, in whatever world in which block b alone has turned. -/
def Cmp3 (K : FuncId) (caps : Array Value) (b : Nat) (w : World) (cc : Nat → Nat → Int) : Prop :=
  ∀ (w1 : World) (x y : Nat), Sort1 b w w1 → x < 3 → y < 3 → Calls Try.prog K (#[.int .i64 x, .int .i64 y] ++ caps) w1 fun e w' => e = .returned (.int .i64 (cc x y)) ∧ ∃ n, w' = w1.drewN n
def gOf (cc : Nat → Nat → Int) (x y : Nat) : Bool := decide (cc x y < 0)

set_option maxRecDepth 100000 in
set_option maxHeartbeats 1000000 in
theorem insert_any (K : FuncId) (caps : Array Value) (eK : ∀ (args : Array Value) (w : World), (callFunc K args).run Try.prog w = .ok (.enter K args) w) (b cap : Nat) (d : Nat → Nat) (cc : Nat → Nat → Int) (w : World) (hc : Ax w b d) (hd : ∀ x, x < 3 → d x < 3) (hK : Cmp3 K caps b w cc) :
    Calls Try.prog 150 #[.slice (some ⟨b, 0, none⟩) 3 cap, .int .i64 0, .int .i64 3, .func (.func K) #[] caps] w
      (fun e w' => e = .returned (.tuple #[]) ∧ Ax w' b (srtF (gOf cc) d 2) ∧ Sort1 b w w') := by
  have HC := hid hc; clear hc
  have HD := hid hd; clear hd
  have HK := hid hK; clear hK
  go_enter Try.func150, Try.ntmps150
  go_wp2
  go_loopw [8] (fun v wr => ∃ (i : Nat) (dd : Nat → Nat), i < 3 ∧ v = .int .i64 ((i : Int) + 1) ∧ RowKit.Hid (dd = srtF (gOf cc) d i) ∧ RowKit.Hid (∀ x, x < 3 → dd x < 3) ∧ RowKit.Hid (Ax wr b dd) ∧ RowKit.Hid (Sort1 b w wr)) (fun v _ => 4 - (intOf v).toNat)
  case atStart => exact ⟨0, d, by omega, rfl, hid rfl, HD, HC, sort1_refl b w⟩
  case round =>
    obtain ⟨i, dd, h1, rfl, hs, ht, hr, hw⟩ := hrel
    by_cases hlt : i < 2
    · go_wp2
      go_loopw [9] (fun v wr' => ∃ (j : Nat) (ee : Nat → Nat), j ≤ i + 1 ∧ v = .int .i64 (j : Int) ∧ RowKit.Hid (insF (gOf cc) j ee = srtF (gOf cc) d (i + 1)) ∧ RowKit.Hid (∀ x, x < 3 → ee x < 3) ∧ RowKit.Hid (Ax wr' b ee) ∧ RowKit.Hid (Sort1 b w wr')) (fun v _ => (intOf v).toNat)
      case atStart => exact ⟨i + 1, dd, by omega, by simp, hid (by rw [hs.out]; rfl), ht, hr, hw⟩
      case round =>
        clear hs ht hr hw
        obtain ⟨j, ee, h4, rfl, hs, ht, hr, hw⟩ := hrel
        by_cases hgt : 0 < j
        case neg =>
          have hk' : decide (0 < j) = false := decide_eq_false (by omega)
          have hk2 : ¬ 0 < j := by omega
          have HJ : RowKit.Hid (j = 0) := hid (by omega)
          clear hgt
          go_wp2
          go_quiet (fail)
          go_wp2
          refine ⟨⟨i + 1, ee, by omega, by simp, hid (by have := hs.out; rw [HJ.out] at this; exact this), ht, hr.out.drewN _, sort1_drewN hw.out _⟩, by simp [intOf]; omega⟩
        case pos =>
          obtain ⟨j, rfl⟩ : ∃ k, j = k + 1 := ⟨j - 1, by omega⟩
          clear hgt
          have ca := hr.out.cell (j + 1) (by omega)
          have cb := hr.out.cell j (by omega)
          have fa := hr.out.open_ (j + 1)
          have fb := hr.out.open_ j
          have v1 := ht.out (j + 1) (by omega)
          have v2 := ht.out j (by omega)
          have e1 : (((j + 1 : Nat) : Int) - 1) = (j : Int) := by omega
          obtain ⟨m, hm⟩ : ∃ m, m = j + 1 := ⟨_, rfl⟩
          rw [← hm] at ca fa v1 e1 h4 ⊢
          have e9 : ¬ m = j := by omega
          have e5 : (0 : Int) < (m : Int) := by omega
          have e6 : 0 < m := by omega
          have e10 : IntKind.i64.wrap (j : Int) = (j : Int) := by rw [IntKind.wrap_i64]; omega
          have e7 : (m : Int) < 3 := by omega
          have e8 : (j : Int) < 3 := by omega
          have HM := hid hm
          clear hm
          have hcall : ∀ n, Calls Try.prog K (#[.int .i64 (ee m : Nat), .int .i64 (ee j : Nat)] ++ caps) (wr.drewN n) fun e w' => e = .returned (.int .i64 (cc (ee m) (ee j))) ∧ ∃ k, w' = (wr.drewN n).drewN k := fun n => HK.out _ _ _ (sort1_drewN hw.out n) v1 v2
          have HCALL := hid hcall
          clear hcall
          by_cases hk : cc (ee m) (ee j) < 0
          · go_wp2
            go_quiet ((exact Calls.quiet_of (HCALL.out _)))
            have hr2 := hr.out.drewN nq
            have hw2 := sort1_drewN hw.out nq
            clear ca cb fa fb hr hw HCALL
            generalize wr.drewN nq = w2 at hr2 hw2 ⊢
            have ca := hr2.cell m (by omega)
            have cb := hr2.cell j (by omega)
            have fa := hr2.open_ m
            have fb := hr2.open_ j
            have HR := hid hr2
            have HW := hid hw2
            clear hr2 hw2
            go_wp2
            go_region
            go_wp2
            refine ⟨⟨j, swp ee m j, by omega, rfl, hid ?_, hid (swp_lt ht.out (by omega) (by omega)), hid (HR.out.swap m j (by omega) (by omega) (by omega)).drew, hid (sort1_drew (sort1_set (sort1_set HW.out _ _) _ _))⟩, by simp [intOf]; omega⟩
            rw [← hs.out, HM.out]
            have : gOf cc (ee (j + 1)) (ee j) = true := by unfold gOf; rw [← HM.out]; exact decide_eq_true hk
            show _ = if _ then _ else _
            rw [if_pos this]
          · have hk' : decide (cc (ee m) (ee j) < 0) = false := decide_eq_false hk
            go_wp2
            go_quiet ((exact Calls.quiet_of (HCALL.out _)))
            go_wp2
            refine ⟨⟨i + 1, ee, by omega, by simp, hid ?_, ht, hr.out.drewN _, sort1_drewN hw.out _⟩, by simp [intOf]; omega⟩
            rw [← hs.out]
            have : ¬ gOf cc (ee (j + 1)) (ee j) = true := by unfold gOf; rw [← HM.out]; simpa using hk
            show _ = if _ then _ else _
            rw [if_neg this]
    · obtain rfl : i = 2 := by omega
      go_wp2
      go_end0
      exact ⟨rfl, by rw [← hs.out]; exact hr.out, hw.out⟩

set_option maxRecDepth 100000 in
set_option maxHeartbeats 1000000 in
theorem stable_any (K : FuncId) (caps : Array Value) (eK : ∀ (args : Array Value) (w : World), (callFunc K args).run Try.prog w = .ok (.enter K args) w) (b cap : Nat) (d : Nat → Nat) (cc : Nat → Nat → Int) (w : World) (hc : Ax w b d) (hd : ∀ x, x < 3 → d x < 3) (hK : Cmp3 K caps b w cc) :
    Calls Try.prog 118 #[.slice (some ⟨b, 0, none⟩) 3 cap, .func (.func K) #[] caps] w
      (fun e w' => e = .returned (.tuple #[]) ∧ Ax w' b (srtF (gOf cc) d 2) ∧ Sort1 b w w') := by
  have HC := hid hc; clear hc
  have HD := hid hd; clear hd
  have HK := hid hK; clear hK
  have step : ∀ w, Ax w b d → Cmp3 K caps b w cc → Calls Try.prog 142 #[.slice (some ⟨b, 0, none⟩) 3 cap, .int .i64 3, .func (.func K) #[] caps] w (fun e w' => e = .returned (.tuple #[]) ∧ Ax w' b (srtF (gOf cc) d 2) ∧ Sort1 b w w') := by
    intro w hc hk
    have HC := hid hc; clear hc
    have HK := hid hk; clear hk
    go_enter Try.func142, Try.ntmps142
    go_wp2
    refine wp_loop_once ?_
    go_wp2_with fail
    refine (insert_any K caps eK b cap d cc _ HC.out HD.out HK.out).mono ?_
    rintro e w' ⟨rfl, g1, g2⟩
    go_wp2
    refine wp_loop_once ?_
    go_wp2
    go_end0
    exact ⟨rfl, g1, g2⟩
  go_enter Try.func118, Try.ntmps118
  go_wp2_with fail
  refine (step w HC.out HK.out).mono ?_
  rintro e w' ⟨rfl, g1, g2⟩
  go_wp2
  go_end0
  exact ⟨rfl, g1, g2⟩
end Go.Proofs.Ythnbfllhmjpbjaa
