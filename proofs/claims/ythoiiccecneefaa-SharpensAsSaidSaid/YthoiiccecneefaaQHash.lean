/-
  Contracts of the hashes.
-/
import Derived.Test.YthoiiccecneefaaQMix
import Derived.Test.YthoiiccecneefaaVal
import Derived.Handy
namespace Go.Proofs.Ythoiiccecneefaa
open Go.RowKit

theorem floatOfInt_not_nan (k : FloatKind) (n : Int) : isN k (floatOfInt k n) = false := write_not_nan k (.number (n < 0) n.natAbs 0) rfl
theorem cn_floatOfInt (k : FloatKind) (n : Int) : cn k (floatOfInt k n) = floatOfInt k n := cn_of_not (floatOfInt_not_nan k n)

theorem setCell_twice (w : World) (a : Addr) (v v' : Value) : (w.setCell a v).setCell a v' = w.setCell a v' := by
  unfold World.setCell
  congr 1
  apply Array.ext
  · simp
  · intro i h1 h2
    have h0 : i < w.heap.size := by simpa using h2
    by_cases hi : a.block = i
    · simp only [Array.getElem_modify, hi, if_true]
      cases w.heap[i]'h0 <;> simp
      split <;> simp
    · simp only [Array.getElem_modify, hi, if_false]

/-- One step of the hash, as the walk spells it. -/
def hStep (h i : Int) : Int :=
  let c := bits BinOp.xor IntKind.u32 ((h + i) % 4294967296 * 2246822507 % 4294967296) ((h + i) % 4294967296 * 2246822507 % 4294967296 / 8192)
  bits BinOp.xor IntKind.u32 (c * 3266489909 % 4294967296) (c * 3266489909 % 4294967296 / 65536)

set_option maxRecDepth 100000 in
theorem mix_any (i h : Int) (b : Nat) (w : World) (hc : w.cell? ⟨b, 0, none⟩ = some (.int .u32 h)) (hf : w.frozen? ⟨b, 0, none⟩ = false) :
    Calls Try.prog 126 #[.int .i64 i, .pointer (some ⟨b, 0, none⟩)] w fun e w' => e = .returned (.tuple #[]) ∧ w' = w.setCell ⟨b, 0, none⟩ (.int .u32 (hStep h i)) := by
  have hs := fun v v' => setCell_twice w ⟨b, 0, none⟩ v v'
  go_enter Try.func126, Try.ntmps126
  go_wp2
  go_end0
  exact ⟨rfl, rfl⟩

/-- The same where the variable is the newest block. -/
theorem mix_new (i h : Int) (w : World) :
    Calls Try.prog 126 #[.int .i64 i, .pointer (some ⟨w.heap.size, 0, none⟩)] (w.alloc (.cells #[.int .u32 h] 27)) fun e w' => e = .returned (.tuple #[]) ∧ w' = w.alloc (.cells #[.int .u32 (hStep h i)] 27) :=
  (mix_any i h w.heap.size _ (by simp) (by simp)).mono fun e w' ⟨he, hw⟩ => ⟨he, by rw [hw, World.setCell_alloc_new]; rfl⟩

/-- The hash, as the walk spells it. -/
def hashC (s x y n : Int) : Int := hStep (hStep (hStep (bits BinOp.xor IntKind.u32 s 2654435769) x) y) n

def hAcc (s x y n : Int) : Nat → Int
  | 0 => bits BinOp.xor IntKind.u32 s 2654435769
  | 1 => hStep (bits BinOp.xor IntKind.u32 s 2654435769) x
  | 2 => hStep (hStep (bits BinOp.xor IntKind.u32 s 2654435769) x) y
  | _ => hashC s x y n

set_option maxRecDepth 100000 in
theorem hashr_any (s x y n : Int) (w : World) :
    Calls Try.prog 78 #[.int .u32 s, .int .i64 x, .int .i64 y, .int .i64 n] w fun e w' => e = .returned (.int .u32 (hashC s x y n)) ∧ Below w.heap.size w w' := by
  go_enter Try.func78, Try.ntmps78
  go_wp2
  go_loop [9, 19] (fun h i => ∃ j : Nat, j ≤ 3 ∧ i = .int .i64 j ∧ h = .int .u32 (hAcc s x y n j)) (fun _ i => 3 - (intOf i).toNat)
  case atStart => exact ⟨0, by omega, rfl, rfl⟩
  case round =>
    obtain ⟨j, hj, rfl, rfl⟩ := hrel
    have hj' : j = 0 ∨ j = 1 ∨ j = 2 ∨ j = 3 := by omega
    rcases hj' with rfl | rfl | rfl | rfl
    · go_wp2
      go_round
      case rel => exact ⟨1, by omega, rfl, rfl⟩
      case measure => simp [intOf]
    · go_wp2
      go_round
      case rel => exact ⟨2, by omega, rfl, rfl⟩
      case measure => simp [intOf]
    · go_wp2
      go_round
      case rel => exact ⟨3, by omega, rfl, rfl⟩
      case measure => simp [intOf]
    · go_wp2
      go_ret
      exact ⟨rfl, (Below.refl _ _).alloc (Nat.le_refl _) _⟩

set_option maxRecDepth 100000 in
theorem hashn_any (s x y n : Int) (w : World) :
    Calls Try.prog 103 #[.int .u32 s, .int .i64 x, .int .i64 y, .int .i64 n] w fun e w' => e = .returned (.int .u32 (hashC s x y n)) ∧ Below w.heap.size w w' := by
  have hmf : ∀ (fn : Fn) (first cap : Array Value) (w : World), (Instr.makeFunc fn first cap).run Try.prog w = .ok (.func fn first cap) w := fun _ _ _ _ => rfl
  go_enter Try.func103, Try.ntmps103
  go_wp2_with fail
  refine (mix_new _ _ _).mono ?_
  rintro e w' ⟨rfl, rfl⟩
  go_wp2_with fail
  refine (mix_new _ _ _).mono ?_
  rintro e w' ⟨rfl, rfl⟩
  go_wp2_with fail
  refine (mix_new _ _ _).mono ?_
  rintro e w' ⟨rfl, rfl⟩
  go_wp2
  go_ret
  exact ⟨rfl, (Below.refl _ _).alloc (Nat.le_refl _) _⟩

theorem read_lt (f : Ieee.Format) (b : Nat) {s : Bool} {m : Nat} {e : Int} (h : f.read b = .number s m e) : m < 2 * f.binade := by
  have hp : 0 < f.binade := Nat.two_pow_pos _
  unfold Ieee.Format.read at h
  dsimp only at h
  by_cases h1 : b % f.signWeight < f.binade
  · rw [if_pos h1] at h; cases h; omega
  · rw [if_neg h1] at h
    by_cases h2 : b % f.signWeight < f.infRung
    · rw [if_pos h2] at h; cases h
      have := Nat.mod_lt (b % f.signWeight) hp
      omega
    · rw [if_neg h2] at h
      by_cases h3 : b % f.signWeight = f.infRung
      · rw [if_pos h3] at h; cases h
      · rw [if_neg h3] at h; cases h

/-- A product with 2^-24 and a quotient by 2^24 are one; both are valid. -/
theorem unit_eq (u : Nat) (h : isN .f32 u = false) : ∃ r, floatBits .mul .f32 u 864026624 = some r ∧ floatBits .quo .f32 u 1266679808 = some r := by
  have c1 : FloatKind.f32.format.read 864026624 = .number false 8388608 (-47) := by decide +kernel
  have c2 : FloatKind.f32.format.read 1266679808 = .number false 8388608 1 := by decide +kernel
  unfold isN at h
  simp only [floatBits, Ieee.Format.mul, Ieee.Format.div, c1, c2]
  cases hd : FloatKind.f32.format.read u with
  | nan s t => rw [hd] at h; cases h
  | infinity s => exact ⟨_, rfl, rfl⟩
  | number s m i =>
    have hm : m < 16777216 := read_lt _ _ hd
    refine ⟨_, rfl, ?_⟩
    have hl : m.log2 ≤ 23 := by
      by_cases h0 : m = 0
      · subst h0; decide
      · have := (Nat.log2_lt h0 (k := 24)).2 hm
        omega
    simp only [Ieee.Datum.quotient]
    rw [if_neg (by decide)]
    simp only [Option.map_some]
    congr 1
    have hfb : FloatKind.f32.format.fractionBits = 23 := rfl
    rw [hfb, show Nat.log2 8388608 = 23 from by decide +kernel, Nat.shiftLeft_eq]
    obtain ⟨q, hq⟩ : ∃ q, 23 + 2 + 23 - m.log2 = q + 23 := ⟨25 - m.log2, by omega⟩
    rw [hq]
    have hdvd : m * 2 ^ (q + 23) = (m * 2 ^ q) * 8388608 := by rw [Nat.pow_add, Nat.mul_assoc]
    rw [hdvd, Nat.mul_div_cancel _ (by decide), Nat.mul_mod_left]
    simp only [Ieee.Format.write]
    have e1 := nearest_shift FloatKind.f32.format (s ^^ false) m (i - 24) (q + 1)
    have e2 := nearest_shift FloatKind.f32.format (s ^^ false) m (i - 24) 23
    have g1 : 2 * (m * 2 ^ q) + (0 != 0 : Bool).toNat = m * 2 ^ (q + 1) := by rw [Nat.pow_succ]; simp; rw [Nat.mul_comm 2, Nat.mul_assoc]
    rw [g1, show i - 1 - ((q + 23 : Nat) : Int) - 1 = i - 24 - ((q + 1 : Nat) : Int) by push_cast; omega, e1, ← e2, show i - 24 - ((23 : Nat) : Int) = i + -47 by omega]

/-- The share of a hash. -/
def unitC (h : Int) : Nat := cop .mul .f32 (floatOfInt .f32 (h / 256)) 864026624

theorem unit_facts (h : Int) : floatBits .mul .f32 (floatOfInt .f32 (h / 256)) 864026624 = some (unitC h) ∧ floatBits .quo .f32 (floatOfInt .f32 (h / 256)) 1266679808 = some (unitC h) := by
  obtain ⟨r, h1, h2⟩ := unit_eq (floatOfInt .f32 (h / 256)) (floatOfInt_not_nan _ _)
  have : unitC h = r := by unfold unitC cop; rw [h1]; rfl
  rw [this]; exact ⟨h1, h2⟩

theorem unit_any (h : Int) (w : World) : Calls Try.prog 102 #[.int .u32 h] w fun e w' => e = .returned (.float .f32 (unitC h)) ∧ w = w' := by
  have f1 := fun w => fopv (unit_facts h).1 w
  have f2 := fdrv (unit_facts h).1
  go_enter Try.func102, Try.ntmps102
  go_wp2
  go_ret
  exact ⟨rfl, rfl⟩

theorem unitOf_any (h : Int) (w : World) : Calls Try.prog 77 #[.int .u32 h] w fun e w' => e = .returned (.float .f32 (unitC h)) ∧ w = w' := by
  have f1 := fun w => fopv (unit_facts h).2 w
  have f2 := fdrv (unit_facts h).2
  go_enter Try.func77, Try.ntmps77
  go_wp2
  go_ret
  exact ⟨rfl, rfl⟩

theorem unitC_same (h : Int) : FloatKind.f32.format.order (unitC h) (unitC h) = some .eq := order_self _ _ (floatBits_not_nan (unit_facts h).1)

end Go.Proofs.Ythoiiccecneefaa
